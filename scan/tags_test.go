package scan_test

import (
	"testing"

	"vivarium/scan"
)

// manyTags are the tags where there are many states, one behind the other as the chapter tells them.
func manyTags() []string {
	const upper = "ABCDEFGHIJKLMNOPQRSTUVWX"
	tags := []string{"."}
	for _, ahead := range []string{"", "p", "q", "r", "s", "t", "u", "v", "w", "x", "y"} {
		for i := range len(upper) {
			tags = append(tags, ahead+upper[i:i+1])
		}
	}
	return tags[:256]
}

func TestTagWhereThereAreMany(t *testing.T) {
	for state, want := range manyTags() {
		if got := scan.Tag(uint8(state), true); got != want {
			t.Errorf("Tag(%d, true) = %q, not %q", state, got, want)
		}
	}
}

func TestTagWhereThereAreTwo(t *testing.T) {
	for state := range 256 {
		want := ""
		if state < 2 {
			want = "bo"[state : state+1]
		}
		if got := scan.Tag(uint8(state), false); got != want {
			t.Errorf("Tag(%d, false) = %q, not %q", state, got, want)
		}
	}
}

// modelStates are all tags with their states.
func modelStates() map[string]int {
	states := map[string]int{"b": 0, "o": 1}
	for state, tag := range manyTags() {
		states[tag] = state
	}
	return states
}

func TestStateOfEveryShortText(t *testing.T) {
	states := modelStates()
	look := func(tag string) {
		state, is := scan.State(tag)
		want, wantIs := states[tag]
		if is != wantIs || int(state) != want {
			t.Errorf("State(%q) = %d, %v", tag, state, is)
		}
	}
	look("")
	for a := range 256 {
		look(string([]byte{byte(a)}))
		for b := range 256 {
			look(string([]byte{byte(a), byte(b)}))
			look(string([]byte{'p', byte(a), byte(b)}))
		}
	}
	for tag := range states {
		look(tag + tag)
		look(" " + tag)
		look(tag + "\n")
		look(tag + "!")
		look("$" + tag)
	}
}
