package row_test

import (
	"fmt"
	"slices"

	"tactile/api"
	"tactile/row"
)

// A scrap is a cell after the document's words. A half knows by a number of
// which wide rune it is, so that two halves of unlike runes are told apart.
type scrap struct {
	r     int32
	marks []int32
	of    int // 0: it is no half
	right bool
	a     api.Attr
}

// A strip is a row after the document's words, written apart from the
// program's, so that a slip in either shows.
type strip struct {
	cells []scrap
	wides int // how many wide runes were put
}

// A step is a call: kind is the function's name.
type step struct {
	kind   string
	at, to int // col or from; to, n, or cols
	x      int32
	wide   bool
	a      api.Attr
}

func (s step) String() string {
	return fmt.Sprintf("%s(%d, %d, %#x, %v, %v)", s.kind, s.at, s.to, s.x, s.wide, s.a)
}

// on does a step to the program's row.
func (s step) on(r *row.Row) api.Errno {
	switch s.kind {
	case "Put":
		return r.Put(s.at, s.x, s.wide, s.a)
	case "Join":
		return r.Join(s.at, s.x)
	case "Erase":
		return r.Erase(s.at, s.to, s.a)
	case "Insert":
		return r.Insert(s.at, s.to, s.a)
	case "Delete":
		return r.Delete(s.at, s.to, s.a)
	case "Resize":
		return r.Resize(s.to)
	}
	panic(s.kind)
}

// do does a step to a strip.
func (p *strip) do(s step) (err api.Errno) {
	switch s.kind {
	case "Put":
		err = p.put(s)
	case "Join":
		err = p.join(s)
	case "Erase":
		p.erase(s)
	case "Insert":
		at, n := p.within(s)
		some := slices.Repeat([]scrap{empty(s.a.Bg)}, n)
		p.cells = slices.Insert(p.cells, at, some...)[:len(p.cells)]
	case "Delete":
		at, n := p.within(s)
		some := slices.Repeat([]scrap{empty(s.a.Bg)}, n)
		p.cells = append(slices.Delete(p.cells, at, at+n), some...)
	case "Resize":
		err = p.resize(s.to)
	}
	p.settle()
	return err
}

func (p *strip) put(s step) api.Errno {
	last := s.at
	if s.wide {
		last++
	}
	if !isRune(s.x) || s.at < 0 || s.at >= len(p.cells) || last >= len(p.cells) {
		return api.ErrArg
	}
	of := 0
	if s.wide {
		p.wides++
		of = p.wides
		p.cells[last] = scrap{of: of, right: true, a: s.a}
	}
	p.cells[s.at] = scrap{r: s.x, of: of, a: s.a}
	return api.OK
}

func (p *strip) join(s step) api.Errno {
	if !isRune(s.x) || s.at < 0 || s.at >= len(p.cells) {
		return api.ErrArg
	}
	c := &p.cells[s.at]
	if c.right {
		c = &p.cells[s.at-1]
	}
	if len(c.marks) == 4 {
		return api.ErrFull
	}
	c.marks = append(slices.Clone(c.marks), s.x)
	return api.OK
}

func (p *strip) erase(s step) {
	for i := range p.cells {
		if i >= s.at && i < s.to {
			p.cells[i] = empty(s.a.Bg)
		}
	}
}

func (p *strip) resize(cols int) api.Errno {
	if cols < 1 || cols > 512 {
		return api.ErrArg
	}
	for len(p.cells) < cols {
		p.cells = append(p.cells, empty(0))
	}
	p.cells = slices.Clone(p.cells[:cols])
	return api.OK
}

// within is where a step begins, and how many cells it goes over.
func (p *strip) within(s step) (at, n int) {
	for i := range p.cells {
		if s.at > i {
			at++
		}
	}
	for i := at; i < len(p.cells); i++ {
		if s.to > i-at {
			n++
		}
	}
	return at, n
}

// settle makes each half blank whose other half has gone, or stands elsewhere.
func (p *strip) settle() {
	was := slices.Clone(p.cells)
	for i, c := range was {
		other := i + 1
		if c.right {
			other = i - 1
		}
		beside := other >= 0 && other < len(was) && was[other].of == c.of && was[other].right != c.right
		if c.of != 0 && !beside {
			p.cells[i] = scrap{r: 32, a: c.a}
		}
	}
}

// told is the strip as cells.
func (p *strip) told() (all []api.Cell) {
	for _, c := range p.cells {
		told := api.Cell{R: c.r, Comb: c.marks, A: c.a}
		if c.of != 0 && c.right {
			told.Wide = 2
		} else if c.of != 0 {
			told.Wide = 1
		}
		all = append(all, told)
	}
	return all
}

// copied is a strip like this one.
func (p *strip) copied() *strip {
	return &strip{cells: slices.Clone(p.cells), wides: p.wides}
}

// empty is a blank cell with a background.
func empty(bg uint32) scrap { return scrap{r: 32, a: api.Attr{Bg: bg}} }

// isBlank tells whether a cell is blank, of any attribute.
func isBlank(c api.Cell) bool { return c.R == 32 && len(c.Comb) == 0 && c.Wide == 0 }

// isRune tells whether a rune may be put.
func isRune(x int32) bool {
	return x >= 32 && x < 55296 || x > 57343 && x <= 1114111
}

// same tells whether two cells are.
func same(a, b api.Cell) bool {
	return a.R == b.R && a.Wide == b.Wide && a.A == b.A && slices.Equal(a.Comb, b.Comb)
}

// show is cells in a few signs: of each its rune, or . for a blank one, or )
// for a right half; and how many marks it has.
func show(cells []api.Cell) (s string) {
	for _, c := range cells {
		switch {
		case isBlank(c):
			s += "."
		case c.Wide == 2:
			s += ")"
		default:
			s += string(c.R)
		}
		if len(c.Comb) > 0 {
			s += fmt.Sprint(len(c.Comb))
		}
	}
	return s
}
