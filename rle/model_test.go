package rle_test

import (
	"errors"
	"math/big"
	"regexp"
	"slices"
	"strconv"
	"strings"
	"testing"

	"vivarium/api"
	"vivarium/rle"
	"vivarium/scan"
)

// The models: a head may begin as a pattern says that is made of its pieces, numbers are great ones, and runs are taken off a body by another pattern; a pattern is written by going through all places of its rows.

// fault is what is wrong with a text, and where.
type fault struct {
	code api.Errno
	at   int
}

var well = fault{}

// The pieces of a head with the blanks between them: up to the sides, and further.
var (
	sidesPieces = []string{blank, "x", blank, "=", blank, "([0-9]+)", blank, ",", blank, "y", blank, "=", blank, "([0-9]+)", blank}
	rulePieces  = []string{",", blank, "r", "u", "l", "e", blank, "=", blank, `([^\r]+)`}
)

const blank = `[ \t]*`

// nested are pieces each of which may stand behind those ahead of it alone.
func nested(pieces []string) string {
	pattern := ""
	for _, p := range slices.Backward(pieces) {
		pattern = "(?:" + p + pattern + ")?"
	}
	return pattern
}

var (
	headBegins = regexp.MustCompile("^" + nested(slices.Concat(sidesPieces, rulePieces)) + "$")
	headIs     = regexp.MustCompile("^" + strings.Join(sidesPieces, "") + "(?:" + strings.Join(rulePieces, "") + ")?$")
	headSides  = regexp.MustCompile("^" + nested(sidesPieces))
	placeIs    = regexp.MustCompile(`^Pos=(-?[0-9]+),(-?[0-9]+)$`)
	genIs      = regexp.MustCompile(`^Gen=(-?[0-9]+)$`)
	fieldsAre  = regexp.MustCompile(`[^ \t]+`)
	runIs      = regexp.MustCompile(`^[ \t\r\n]*(?:(!)|([0-9]*)([$bo.A-X]|[p-y][A-X]))`)
)

// within is a number in tens, if it is from low to high.
func within(digits string, low, high int64) (int, bool) {
	n, is := new(big.Int).SetString(digits, 10)
	if !is || n.Cmp(big.NewInt(low)) < 0 || n.Cmp(big.NewInt(high)) > 0 {
		return 0, false
	}
	return int(n.Int64()), true
}

// modelRead is what Read answers.
func modelRead(text string) (api.Doc, fault) {
	if len(text) > 1<<20 {
		return api.Doc{}, fault{api.ErrText, 0}
	}
	var d api.Doc
	extras, at := 0, 0
	for _, line := range strings.SplitAfter(text, "\n") {
		bare := strings.TrimSuffix(strings.TrimSuffix(line, "\n"), "\r")
		behind := at + len(line)
		switch {
		case strings.HasPrefix(bare, "#CXRLE"):
			if extras++; extras > 1 {
				return api.Doc{}, fault{api.ErrExtra, at}
			}
			if f := modelExtra(&d, bare[6:], at+6); f != well {
				return api.Doc{}, f
			}
		case strings.HasPrefix(bare, "#") || strings.Trim(bare, " \t") == "":
		default:
			f := modelHead(&d, bare, at)
			if f == well {
				f = modelBody(&d, text[behind:], behind)
			}
			if f != well {
				d = api.Doc{}
			}
			return d, f
		}
		at = behind
	}
	return api.Doc{}, fault{api.ErrHead, len(text)}
}

// modelExtra reads what stands behind the word of the extra line.
func modelExtra(d *api.Doc, rest string, at int) fault {
	aged := false
	for _, place := range fieldsAre.FindAllStringIndex(rest, -1) {
		field := rest[place[0]:place[1]]
		is := false
		if m := placeIs.FindStringSubmatch(field); m != nil && !d.Placed {
			x, isX := within(m[1], -1<<40, 1<<40)
			y, isY := within(m[2], -1<<40, 1<<40)
			if is = isX && isY; is {
				d.Placed, d.At = true, api.Point{X: x, Y: y}
			}
		}
		if m := genIs.FindStringSubmatch(field); m != nil && !aged {
			n, isN := within(m[1], 0, 1<<50)
			if is = isN; is {
				aged, d.Gen = true, n
			}
		}
		if !is {
			return fault{api.ErrExtra, at + place[0]}
		}
	}
	return well
}

// modelHead reads the line of the head.
func modelHead(d *api.Doc, line string, at int) fault {
	line = strings.TrimRight(line, " \t")
	begun := len(line)
	for !headBegins.MatchString(line[:begun]) {
		begun--
	}
	sides := headSides.FindStringSubmatchIndex(line[:begun])
	for i, side := range []*int{&d.W, &d.H} {
		if from := sides[2*i+2]; from >= 0 {
			n, is := within(line[from:sides[2*i+3]], 0, 1<<40)
			if !is {
				return fault{api.ErrFar, at + from}
			}
			*side = n
		}
	}
	m := headIs.FindStringSubmatch(line)
	if m == nil {
		return fault{api.ErrHead, at + begun}
	}
	d.Rule = m[3]
	if d.Rule == "" {
		d.Rule = "B3/S23"
	}
	return well
}

// modelBody reads runs, once scan has said that they are some.
func modelBody(d *api.Doc, body string, at int) fault {
	if _, wrong, e := scan.Runs(body); e != api.OK {
		return fault{e, at + wrong}
	}
	x, y, here := 0, 0, 0
	for {
		m := runIs.FindStringSubmatchIndex(body[here:])
		if m[2] >= 0 {
			return well
		}
		first, tag := here+m[4], body[here+m[6]:here+m[7]]
		count, is := within(body[here+m[4]:here+m[5]], 1, 1<<40)
		if !is {
			count = 1
		}
		here += m[1]
		state, _ := scan.State(tag)
		switch {
		case tag == "$":
			x, y = 0, y+count
			continue
		case state > 0 && (y > d.H-1 || x+count-1 > d.W-1):
			return fault{api.ErrBody, at + first}
		case state > 0 && count > 1<<20-len(d.Cells):
			return fault{api.ErrBudget, at + first}
		case state > 0:
			for i := range count {
				d.Cells = append(d.Cells, api.Cell{X: x + i, Y: y, State: state})
			}
		}
		x += count
	}
}

// modelCheck is what Check answers of cells that are not too many.
func modelCheck(d api.Doc) api.Errno {
	if d.W < 0 || d.H < 0 || d.W > 1<<40 || d.H > 1<<40 {
		return api.ErrFar
	}
	if !regexp.MustCompile(`^[^ \t\r\n](?:[^\r\n]*[^ \t\r\n])?$`).MatchString(d.Rule) {
		return api.ErrRule
	}
	if !d.Placed && (d.At.X != 0 || d.At.Y != 0) {
		return api.ErrDoc
	}
	if max(d.At.X, d.At.Y) > 1<<40 || min(d.At.X, d.At.Y) < -1<<40 || d.Gen < 0 || d.Gen > 1<<50 {
		return api.ErrFar
	}
	times := map[api.Point]int{}
	for _, c := range d.Cells {
		if c.State > 0 {
			if c.X < 0 || c.Y < 0 || c.X >= d.W || c.Y >= d.H {
				return api.ErrPlace
			}
			times[api.Point{X: c.X, Y: c.Y}]++
		}
	}
	for _, n := range times {
		if n > 1 {
			return api.ErrMany
		}
	}
	return api.OK
}

// modelWrite is the text of a small pattern that can be told.
func modelWrite(d api.Doc) string {
	text := ""
	if d.Placed || d.Gen > 0 {
		text = "#CXRLE"
		if d.Placed {
			text += " Pos=" + strconv.Itoa(d.At.X) + "," + strconv.Itoa(d.At.Y)
		}
		if d.Gen > 0 {
			text += " Gen=" + strconv.Itoa(d.Gen)
		}
		text += "\n"
	}
	text += "x = " + strconv.Itoa(d.W) + ", y = " + strconv.Itoa(d.H) + ", rule = " + d.Rule + "\n"
	states, many := map[api.Point]uint8{}, false
	for _, c := range d.Cells {
		if c.State > 0 {
			states[api.Point{X: c.X, Y: c.Y}] = c.State
			many = many || c.State > 1
		}
	}
	line := ""
	for _, piece := range modelRuns(states, many) {
		if len(line+piece) > 70 {
			text += line + "\n"
			line = ""
		}
		line += piece
	}
	return text + line + "\n"
}

// modelRuns are the runs of a pattern, and the end behind them: like tags that follow one upon the other, counted.
func modelRuns(states map[api.Point]uint8, many bool) []string {
	last := map[int]int{} // one more than the last living cell's X
	rows := 0
	for p := range states {
		last[p.Y] = max(last[p.Y], p.X+1)
		rows = max(rows, p.Y+1)
	}
	var tags []string
	for y := range rows {
		if y > 0 {
			tags = append(tags, "$")
		}
		for x := range last[y] {
			tags = append(tags, scan.Tag(states[api.Point{X: x, Y: y}], many))
		}
	}
	var runs []string
	for len(tags) > 0 {
		n := 1
		for n < len(tags) && tags[n] == tags[0] {
			n++
		}
		run := tags[0]
		if n > 1 {
			run = strconv.Itoa(n) + run
		}
		runs = append(runs, run)
		tags = tags[n:]
	}
	return append(runs, "!")
}

// told is Read, its error as a fault; one that is nil, or no *api.Fault, is told apart.
func told(text string) (d api.Doc, f fault, isNil bool) {
	d, err := rle.Read(text)
	var wrapped *api.Fault
	switch {
	case err == nil:
		return d, well, true
	case errors.As(err, &wrapped):
		return d, fault{wrapped.Code, wrapped.At}, false
	}
	return d, fault{-1, -1}, false
}

// same tells whether two patterns are the same, a list of nothing being as good as another.
func same(a, b api.Doc) bool {
	return a.W == b.W && a.H == b.H && a.Rule == b.Rule && a.Placed == b.Placed && a.At == b.At && a.Gen == b.Gen && slices.Equal(a.Cells, b.Cells)
}

// brief is a text that can be told in an error.
func brief(text string) string {
	if len(text) > 300 {
		return text[:150] + " .. " + text[len(text)-150:]
	}
	return text
}

// short is a pattern that can be told in an error.
func short(d api.Doc) api.Doc {
	d.Rule = brief(d.Rule)
	d.Cells = d.Cells[:min(len(d.Cells), 40)]
	return d
}

// reads looks at a text that tells a pattern.
func reads(t *testing.T, text string, want api.Doc) {
	t.Helper()
	if d, f, isNil := told(text); !isNil || !same(d, want) {
		t.Errorf("Read(%q) = %v, %v, not %v", brief(text), short(d), f, short(want))
	}
}

// refuses looks at a text that tells none.
func refuses(t *testing.T, text string, code api.Errno, at int) {
	t.Helper()
	if d, f, isNil := told(text); isNil || !same(d, api.Doc{}) || f != (fault{code, at}) {
		t.Errorf("Read(%q) = %v, %v, %v, not %d at %d", brief(text), short(d), f, isNil, code, at)
	}
}

// mustRead is what Read answers of a text that it takes.
func mustRead(t *testing.T, text string) api.Doc {
	t.Helper()
	d, f, isNil := told(text)
	if !isNil {
		t.Fatalf("Read(%q): %v", brief(text), f)
	}
	return d
}

// writes looks at a pattern that can be told.
func writes(t *testing.T, d api.Doc, want string) {
	t.Helper()
	if text, e := rle.Write(d); text != want || e != api.OK {
		t.Errorf("Write(%v) = %q, %d, not %q", short(d), brief(text), e, brief(want))
	}
	checks(t, d, api.OK)
}

// noText looks at a pattern of which Write tells an error.
func noText(t *testing.T, d api.Doc, want api.Errno) {
	t.Helper()
	if text, e := rle.Write(d); text != "" || e != want {
		t.Errorf("Write(%v) = %q, %d, not %d", short(d), brief(text), e, want)
	}
}

// mustWrite is the text of a pattern that can be told.
func mustWrite(t *testing.T, d api.Doc) string {
	t.Helper()
	text, e := rle.Write(d)
	if e != api.OK {
		t.Fatalf("Write(%v): %d", short(d), e)
	}
	return text
}

// checks looks at what Check answers.
func checks(t *testing.T, d api.Doc, want api.Errno) {
	t.Helper()
	if e := rle.Check(d); e != want {
		t.Errorf("Check(%v) = %d, not %d", short(d), e, want)
	}
}

// cantTell looks at a pattern that neither Check nor Write takes.
func cantTell(t *testing.T, d api.Doc, want api.Errno) {
	t.Helper()
	checks(t, d, want)
	noText(t, d, want)
}

// cell is a cell.
func cell(x, y int, state uint8) api.Cell { return api.Cell{X: x, Y: y, State: state} }

// line is so many living cells of a state in one row, from a place on.
func line(x, y, n int, state uint8) []api.Cell {
	list := make([]api.Cell, n)
	for i := range list {
		list[i] = cell(x+i, y, state)
	}
	return list
}

// glider are the five cells of the chapter.
func glider() []api.Cell {
	return []api.Cell{cell(1, 0, 1), cell(2, 1, 1), cell(0, 2, 1), cell(1, 2, 1), cell(2, 2, 1)}
}

// dice tells numbers that look as if they came by chance, but are the same each time.
type dice uint64

// below is a number from 0 to n - 1.
func (d *dice) below(n int) int {
	*d = *d*6364136223846793005 + 1442695040888963407
	return int(uint64(*d)>>33) % n
}

// one is one of the items of a list.
func one[T any](d *dice, list []T) T { return list[d.below(len(list))] }

// shuffled are the items of a list in another order.
func shuffled[T any](d *dice, list []T) []T {
	list = slices.Clone(list)
	for i := len(list) - 1; i > 0; i-- {
		j := d.below(i + 1)
		list[i], list[j] = list[j], list[i]
	}
	return list
}

// doc is a small pattern that can be told, its cells by rows.
func (d *dice) doc() api.Doc {
	doc := api.Doc{W: d.below(40), H: d.below(12), Rule: one(d, []string{"r", "B3/S23:T30,20", "a, b = c", "é\x00!", "x\ty"})}
	if d.below(2) == 0 {
		doc.Placed, doc.At = true, api.Point{X: d.below(100) - 50, Y: d.below(100) - 50}
	}
	if d.below(2) == 0 {
		doc.Gen = d.below(1000)
	}
	dense, states := 1+d.below(12), one(d, []int{2, 3, 256})
	for y := range doc.H {
		if d.below(3) == 0 {
			continue
		}
		for x := range doc.W {
			if d.below(dense) == 0 {
				doc.Cells = append(doc.Cells, cell(x, y, uint8(1+d.below(states-1))))
			}
		}
	}
	return doc
}

// strewn is the same pattern with cells of the state 0 anywhere, in another order.
func (d *dice) strewn(doc api.Doc) api.Doc {
	list := slices.Clone(doc.Cells)
	for range d.below(6) {
		list = append(list, cell(d.below(60)-10, d.below(30)-10, 0))
	}
	doc.Cells = shuffled(d, list)
	return doc
}
