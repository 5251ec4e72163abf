package row

import "tactile/api"

// Numbers of runes that are no signs, between those that are.
const (
	firstSurrogate int32 = 0xd800
	lastSurrogate  int32 = 0xdfff
)

// cell is one of a row's. Its marks stand in an array, so that a cell that is
// moved, or copied, shares no memory with another one.
type cell struct {
	r     int32
	marks [api.MaxComb]int32
	count uint8 // how many marks there are
	wide  uint8
	a     api.Attr
}

// blank is a blank cell with an attribute.
func blank(a api.Attr) cell { return cell{r: ' ', a: a} }

// cleared are n cells cleared with an attribute.
func cleared(n int, a api.Attr) []cell {
	cells := make([]cell, n)
	for i := range cells {
		cells[i] = blank(api.Attr{Bg: a.Bg})
	}
	return cells
}

// isFilled tells whether a cell is not blank.
func (c cell) isFilled() bool {
	return c.r != ' ' || c.count > 0 || c.wide != api.Whole
}

// join puts a mark behind the others.
func (c *cell) join(x int32) api.Errno {
	if int(c.count) == len(c.marks) {
		return api.ErrFull
	}
	c.marks[c.count] = x
	c.count++
	return api.OK
}

// told is the cell as it is handed out, with a list of marks of its own.
func (c cell) told() api.Cell {
	marks := append([]int32(nil), c.marks[:c.count]...)
	return api.Cell{R: c.r, Comb: marks, Wide: c.wide, A: c.a}
}

// mayPut tells whether a rune may be put.
func mayPut(x int32) bool {
	return x >= ' ' && x <= api.MaxRune && (x < firstSurrogate || x > lastSurrogate)
}
