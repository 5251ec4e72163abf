package lines_test

import (
	"fmt"
	"slices"

	"tactile/api"
	"tactile/lines"
	"tactile/row"
)

// A shelf is a store after the document's words: a list of what was pushed, cut
// where it is told. It is written apart from the program's, so that a slip in
// either shows.
type shelf struct {
	most   int
	told   int // how many ids were told
	pushed []api.Held
}

// A step is a call that changes a store: kind is the function's name, n the
// columns or the id.
type step struct {
	kind string
	n    int
	a    api.Attr
	r    *row.Row
}

func (s step) String() string { return fmt.Sprintf("%s(%d)", s.kind, s.n) }

// on does a step to the program's store, and tells what Fresh told.
func (s step) on(store *lines.Store) (lines.Line, api.Errno) {
	switch s.kind {
	case "Fresh":
		return store.Fresh(s.n, s.a)
	case "Push":
		return lines.Line{}, store.Push(lines.Line{ID: s.n, Row: s.r})
	case "Clear":
		return lines.Line{}, store.Clear()
	}
	panic(s.kind)
}

// do does a step to a shelf, and tells what Fresh is to tell.
func (h *shelf) do(s step) (api.Held, api.Errno) {
	switch s.kind {
	case "Fresh":
		if s.n < 1 || s.n > 512 {
			return api.Held{}, api.ErrArg
		}
		h.told++
		return api.Held{ID: h.told, Cells: slices.Repeat([]api.Cell{{R: 32, A: api.Attr{Bg: s.a.Bg}}}, s.n)}, api.OK
	case "Push":
		if s.r == nil || s.r.Len() == 0 || s.n <= 0 || s.n > h.told {
			return api.Held{}, api.ErrArg
		}
		h.pushed = append(h.pushed, api.Held{ID: s.n, Cells: s.r.Cells()})
	case "Clear":
		h.pushed = nil
	default:
		panic(s.kind)
	}
	return api.Held{}, api.OK
}

// last are the lines that the scrollback has.
func (h *shelf) last() []api.Held {
	return h.pushed[max(len(h.pushed)-h.most, 0):]
}

// at is the i-th line of these.
func (h *shelf) at(i int) (api.Held, api.Errno) {
	for at, l := range h.last() {
		if at == i {
			return l, api.OK
		}
	}
	return api.Held{}, api.ErrNone
}

// find is the number of the newest line of these with an id.
func (h *shelf) find(id int) int {
	found := -1
	for at, l := range h.last() {
		if l.ID == id {
			found = at
		}
	}
	return found
}

// copied is a shelf like this one.
func (h *shelf) copied() *shelf {
	return &shelf{most: h.most, told: h.told, pushed: slices.Clone(h.pushed)}
}

// sameHeld tells whether two lines are.
func sameHeld(a, b api.Held) bool {
	return a.ID == b.ID && slices.EqualFunc(a.Cells, b.Cells, sameCell)
}

// sameCell tells whether two cells are.
func sameCell(a, b api.Cell) bool {
	return a.R == b.R && a.Wide == b.Wide && a.A == b.A && slices.Equal(a.Comb, b.Comb)
}
