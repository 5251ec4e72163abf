package emu

import (
	"tactile/api"
	"tactile/chartab"
)

// print puts a rune, or joins it, by the charset that counts.
func (t *terminal) print(x api.Act) {
	r := chartab.Charset(t.sets[t.which], x.R)
	width := chartab.Width(r)
	if width == 0 {
		t.join(r)
		return
	}
	if width > t.shown().Cols() {
		r, width = api.Bad, 1
	}
	t.makeWay(width)
	t.put(r, width)
}

// join puts a mark to the cell ahead of the cursor, or to the cursor's own, if that is the one that was printed last.
func (t *terminal) join(r int32) {
	col := t.col - 1
	if t.pending {
		col = t.col
	}
	c, err := t.line().Cell(col)
	if err != api.OK {
		return
	}
	if c.Wide == api.Right {
		col--
	}
	// Of a mark that the cell does not take the host knows nothing: its event comes all the same.
	t.line().Join(col, r)
	e := t.here(api.EvJoin)
	e.Col = col
	e.Last = isRuneAt(t.last, e.Line, col)
	t.tellRune(e, r)
}

// makeWay sets the cursor to where a rune of that width has room.
func (t *terminal) makeWay(width int) {
	tight := t.col+width > t.shown().Cols()
	switch {
	case t.AutoWrap && (t.pending || tight):
		t.col = 0
		t.feed()
		t.tellFeed(true)
	case tight:
		t.col--
	}
}

// put puts a rune of that width at the cursor, which goes behind it.
func (t *terminal) put(r int32, width int) {
	l := t.line()
	e := t.here(api.EvPrint)
	e.Wide = width == 2
	e.Blank = l.Blank(t.col)
	if t.Insert {
		l.Insert(t.col, width, t.a)
	}
	l.Put(t.col, r, e.Wide, t.a)
	t.tellRune(e, r)
	behind := t.col + width
	t.place(t.row, behind)
	t.pending = t.AutoWrap && behind > t.col
}
