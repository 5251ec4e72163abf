package tabs_test

import (
	"fmt"
	"slices"

	"tactile/api"
	"tactile/tabs"
)

// A ruler is tabs after the document's words, a flag a column. It is written
// apart from the program's, so that a slip in either shows.
type ruler []bool

// A step is a call that changes tabs: kind is the function's name, at col or
// cols.
type step struct {
	kind string
	at   int
}

func (s step) String() string { return fmt.Sprintf("%s(%d)", s.kind, s.at) }

// on does a step to the program's tabs.
func (s step) on(t *tabs.Tabs) api.Errno {
	switch s.kind {
	case "Set":
		return t.Set(s.at)
	case "Clear":
		return t.Clear(s.at)
	case "ClearAll":
		return t.ClearAll()
	case "Resize":
		return t.Resize(s.at)
	}
	panic(s.kind)
}

// do does a step to a ruler.
func (r *ruler) do(s step) api.Errno {
	switch s.kind {
	case "Set", "Clear":
		if s.at < 0 || s.at >= len(*r) {
			return api.ErrArg
		}
		(*r)[s.at] = s.kind == "Set"
	case "ClearAll":
		*r = make(ruler, len(*r))
	case "Resize":
		if s.at < 1 || s.at > 512 {
			return api.ErrArg
		}
		r.resize(s.at)
	default:
		panic(s.kind)
	}
	return api.OK
}

// resize makes a ruler so long: those columns that come are as at first.
func (r *ruler) resize(cols int) {
	for len(*r) < cols {
		col := len(*r)
		*r = append(*r, col > 0 && col%8 == 0)
	}
	*r = slices.Clone((*r)[:cols])
}

// next is the n-th stop behind col, a column after the other.
func (r ruler) next(col, n int) int {
	col = r.within(col)
	for at := col; n > 0; {
		at++
		if at >= len(r) {
			return len(r) - 1
		}
		if r[at] {
			n--
			col = at
		}
	}
	return col
}

// prev is the n-th stop ahead of col, a column after the other.
func (r ruler) prev(col, n int) int {
	col = r.within(col)
	for at := col; n > 0; {
		at--
		if at < 0 {
			return 0
		}
		if r[at] {
			n--
			col = at
		}
	}
	return col
}

// within is the column of the ruler that is the nearest one to col.
func (r ruler) within(col int) int {
	if col < 0 {
		return 0
	}
	if col >= len(r) {
		return len(r) - 1
	}
	return col
}

// stops are those columns that are stops.
func (r ruler) stops() (all []int) {
	for col, is := range r {
		if is {
			all = append(all, col)
		}
	}
	return all
}
