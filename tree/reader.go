package tree

import (
	"vivarium/api"
)

// mostDigits is how many digits a number has at most.
const mostDigits = 9

// reader goes through a text. What it can't read it answers with false, and stands then at the place of the fault.
type reader struct {
	text    string
	at      int
	noState bool // a leaf's number was too great for a State; the text's form counts ahead of that, so it is told at the end
}

// isAhead tells whether the next byte is this one.
func (r *reader) isAhead(b byte) bool { return r.at < len(r.text) && r.text[r.at] == b }

func (r *reader) isDigitAhead() bool {
	return r.at < len(r.text) && '0' <= r.text[r.at] && r.text[r.at] <= '9'
}

// skip goes over one byte.
func (r *reader) skip(b byte) bool {
	if !r.isAhead(b) {
		return false
	}
	r.at++
	return true
}

// word goes over a text byte by byte, up to the first one that is another.
func (r *reader) word(want string) bool {
	for i := range len(want) {
		if !r.skip(want[i]) {
			return false
		}
	}
	return true
}

// number reads as many digits as one number can have; a digit too many is left to what is looked for behind it.
func (r *reader) number() (int, bool) {
	from, n := r.at, 0
	for r.isDigitAhead() && r.at-from < mostDigits {
		n = 10*n + int(r.text[r.at]-'0')
		r.at++
		if n == 0 {
			break
		}
	}
	return n, r.at > from
}

// tree reads the whole text.
func (r *reader) tree() (api.Tree, bool) {
	head, ok := r.head()
	if !ok {
		return api.Tree{}, false
	}
	t := api.Tree{States: head[statesNumber], Inputs: head[inputsNumber], Root: head[rootNumber]}
	for range head[nodesNumber] {
		node, ok := r.node()
		if !ok {
			return api.Tree{}, false
		}
		t.Nodes = append(t.Nodes, node)
	}
	return t, r.at == len(r.text)
}

// head reads the first line.
func (r *reader) head() ([headNumbers]int, bool) {
	var head [headNumbers]int
	ok := r.word(headWord)
	for i := 0; ok && i < headNumbers; i++ {
		head[i], ok = r.headNumber(i)
	}
	return head, ok && r.skip(lineEnd)
}

// headNumber reads a blank and a number of the head. Too many nodes are told at once: whatever else is wrong behind them lies further right.
func (r *reader) headNumber(which int) (int, bool) {
	if !r.skip(blank) {
		return 0, false
	}
	from := r.at
	n, ok := r.number()
	if ok && which == nodesNumber && n > api.MaxNodes {
		r.at, ok = from, false
	}
	return n, ok
}

// node reads one node's line.
func (r *reader) node() (api.Branch, bool) {
	var node api.Branch
	var ok bool
	if r.isAhead(leafWord[0]) {
		node, ok = r.leaf()
	} else {
		node, ok = r.branch()
	}
	return node, ok && r.skip(lineEnd)
}

func (r *reader) leaf() (api.Branch, bool) {
	if !r.word(leafWord) {
		return api.Branch{}, false
	}
	n, ok := r.number()
	if n >= api.MaxStates {
		r.noState = true
	}
	return api.Branch{State: uint8(n)}, ok
}

func (r *reader) branch() (api.Branch, bool) {
	var node api.Branch
	for {
		kid, ok := r.number()
		if !ok {
			return api.Branch{}, false
		}
		node.Kids = append(node.Kids, kid)
		if !r.skip(blank) {
			return node, true
		}
	}
}
