package screen_test

import (
	"fmt"
	"slices"

	"tactile/api"
	"tactile/lines"
	"tactile/row"
	"tactile/screen"
)

// A paper is a screen and its store after the document's words: a list of lines
// that is written anew at each step. It is written apart from the program's, so
// that a slip in either shows.
type paper struct {
	keeps       bool
	cols        int
	most, told  int // of the store: its cap, and how many ids were told
	page        []lines.Line
	top, bottom int
	pushed      []api.Held
}

// A step is a call that changes a screen: kind is the function's name, n and m
// are its numbers, and y the one that only Resize has.
type step struct {
	kind    string
	n, m, y int
	a       api.Attr
}

func (s step) String() string { return fmt.Sprintf("%s(%d, %d, %d)", s.kind, s.n, s.m, s.y) }

// on does a step to the program's screen.
func (s step) on(x *screen.Screen) (int, api.Errno) {
	switch s.kind {
	case "SetMargins":
		return 0, x.SetMargins(s.n, s.m)
	case "Up":
		return 0, x.Up(s.n, s.a)
	case "Down":
		return 0, x.Down(s.n, s.a)
	case "InsertLines":
		return 0, x.InsertLines(s.n, s.m, s.a)
	case "DeleteLines":
		return 0, x.DeleteLines(s.n, s.m, s.a)
	case "Resize":
		return x.Resize(s.n, s.m, s.y)
	}
	panic(s.kind)
}

// newPaper is a paper of fresh lines, when so many ids were told.
func newPaper(rows, cols, most, told int, keeps bool) *paper {
	p := &paper{keeps: keeps, cols: cols, most: most, told: told, bottom: rows - 1}
	p.page = p.fresh(rows, api.Attr{})
	return p
}

// fresh are lines with the next ids, blank on the ground of an attribute.
func (p *paper) fresh(n int, a api.Attr) (all []lines.Line) {
	for range n {
		r, _ := row.New(p.cols)
		r.Erase(0, p.cols, a)
		p.told++
		all = append(all, lines.Line{ID: p.told, Row: r})
	}
	return all
}

// do does a step to a paper.
func (p *paper) do(s step) (int, api.Errno) {
	switch s.kind {
	case "SetMargins":
		return 0, p.setMargins(s.n, s.m)
	case "Up":
		if p.keeps && p.top == 0 {
			p.push(p.page[:p.most0(0, s.n)])
		}
		p.up(p.top, s.n, s.a)
	case "Down":
		p.down(p.top, s.n, s.a)
	case "InsertLines", "DeleteLines":
		if s.n < p.top || s.n > p.bottom {
			return 0, api.ErrArg
		}
		if s.kind == "InsertLines" {
			p.down(s.n, s.m, s.a)
		} else {
			p.up(s.n, s.m, s.a)
		}
	case "Resize":
		return p.resize(s.n, s.m, s.y)
	default:
		panic(s.kind)
	}
	return 0, api.OK
}

// setMargins takes those that may be: one ahead of the other, or whole ones.
func (p *paper) setMargins(top, bottom int) api.Errno {
	inOrder := 0 <= top && top < bottom && bottom < len(p.page)
	if !inOrder && (top != 0 || bottom != len(p.page)-1) {
		return api.ErrArg
	}
	p.top, p.bottom = top, bottom
	return api.OK
}

// most0 is how many lines go, of n from a row on.
func (p *paper) most0(from, n int) int {
	if n < 0 {
		return 0
	}
	if n > p.bottom-from+1 {
		return p.bottom - from + 1
	}
	return n
}

// up writes the page anew: the first n lines from a row on are left out, and
// fresh ones are put behind the others down to the bottom margin.
func (p *paper) up(from, n int, a api.Attr) {
	n = p.most0(from, n)
	p.page = slices.Concat(p.page[:from], p.page[from+n:p.bottom+1], p.fresh(n, a), p.page[p.bottom+1:])
}

// down writes the page anew: the last n lines down to the bottom margin are
// left out, and fresh ones are put ahead of the others from a row on.
func (p *paper) down(from, n int, a api.Attr) {
	n = p.most0(from, n)
	p.page = slices.Concat(p.page[:from], p.fresh(n, a), p.page[from:p.bottom+1-n], p.page[p.bottom+1:])
}

// resize cuts the page, or makes it longer, a line after the other.
func (p *paper) resize(rows, cols, y int) (int, api.Errno) {
	if rows < 1 || rows > 512 || cols < 1 || cols > 512 || y < 0 || y >= len(p.page) {
		return 0, api.ErrArg
	}
	for y > rows-1 {
		if p.keeps {
			p.push(p.page[:1])
		}
		p.page = slices.Clone(p.page[1:])
		y--
	}
	for len(p.page) > rows {
		p.page = slices.Clone(p.page[:len(p.page)-1])
	}
	for len(p.page) < rows {
		p.page = append(p.page, p.fresh(1, api.Attr{})...)
	}
	for _, l := range p.page {
		l.Row.Resize(cols)
	}
	p.cols, p.top, p.bottom = cols, 0, rows-1
	return y, api.OK
}

// push puts lines behind those of the scrollback; the oldest ones beyond the
// cap are gone.
func (p *paper) push(all []lines.Line) {
	for _, l := range all {
		p.pushed = append(p.pushed, api.Held{ID: l.ID, Cells: l.Row.Cells()})
	}
	p.pushed = p.pushed[max(0, len(p.pushed)-p.most):]
}

// find is the row whose line has an id.
func (p *paper) find(id int) int {
	return slices.IndexFunc(p.page, func(l lines.Line) bool { return l.ID == id })
}

// sameCells tells whether two rows' cells are.
func sameCells(a, b []api.Cell) bool {
	return slices.EqualFunc(a, b, func(a, b api.Cell) bool {
		return a.R == b.R && a.Wide == b.Wide && a.A == b.A && slices.Equal(a.Comb, b.Comb)
	})
}
