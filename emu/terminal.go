package emu

import (
	"tactile/api"
	"tactile/lines"
	"tactile/modes"
	"tactile/row"
	"tactile/screen"
	"tactile/tabs"
)

// cursor is where the next rune goes; pending: it goes to the next line.
type cursor struct {
	row, col int
	pending  bool
}

// pen is how runes come to the screen: how they look, the charsets G0 and G1, and which of the two counts.
type pen struct {
	a     api.Attr
	sets  [2]uint8
	which int
}

// saved is what ESC 7 keeps. A zero one is what ESC 8 makes where nothing was saved.
type saved struct {
	cursor
	pen
	origin bool
}

// sheet is a screen, and what was saved of it.
type sheet struct {
	*screen.Screen
	saved saved
}

// terminal is what a Term has within, once it was made.
type terminal struct {
	api.Modes
	cursor
	pen
	store       *lines.Store
	main, other *sheet // other: none, unless it is shown
	tabs        *tabs.Tabs
	prints      uint64
	last        api.Event // the one told last: it counts also where the journal was asked since
	journal     []api.Event
	replies     []byte
}

// begin makes all as at first; ids and prints are counted on, and what was not asked yet stays to be told.
func (t *terminal) begin(rows, cols int) api.Errno {
	main, err := screen.New(rows, cols, t.store, true)
	if err != api.OK {
		return err
	}
	t.main, t.other = &sheet{Screen: main}, nil
	t.store.Clear()
	t.tabs, _ = tabs.New(cols)
	t.Modes = modes.Default()
	t.cursor, t.pen = cursor{}, pen{}
	return api.OK
}

// shown is the screen that is shown.
func (t *terminal) shown() *sheet {
	if t.other != nil {
		return t.other
	}
	return t.main
}

// line is the cursor's row.
func (t *terminal) line() *row.Row { return t.shown().Row(t.row) }

// place sets the cursor, held within the screen; no wrap is pending then.
func (t *terminal) place(row, col int) {
	t.cursor = cursor{row: held(row, t.shown().Rows()), col: held(col, t.shown().Cols())}
}

// move sets the cursor, and tells of it.
func (t *terminal) move(row, col int) {
	t.place(row, col)
	t.tellOther()
}

// feed is a line feed.
func (t *terminal) feed() {
	s := t.shown()
	if _, bottom := s.Margins(); t.row == bottom {
		s.Up(1, t.a)
		t.place(t.row, t.col)
	} else {
		t.place(t.row+1, t.col)
	}
}

// resize gives both screens so many rows and columns.
func (t *terminal) resize(rows, cols int) api.Errno {
	now, err := t.shown().Resize(rows, cols, t.row)
	if err != api.OK {
		return err
	}
	if t.other != nil {
		t.main.saved.row, _ = t.main.Resize(rows, cols, t.main.saved.row)
		t.other.hold()
	}
	t.main.hold()
	t.tabs.Resize(cols)
	t.move(now, t.col)
	return api.OK
}

// hold holds what was saved of a screen within it.
func (s *sheet) hold() {
	s.saved.row, s.saved.col = held(s.saved.row, s.Rows()), held(s.saved.col, s.Cols())
}

// held is i, or the one of so many places that it is beyond.
func held(i, count int) int { return max(0, min(i, count-1)) }

// grid is what is shown.
func (t *terminal) grid() api.Grid {
	s := t.shown()
	g := api.Grid{Row: t.row, Col: t.col, Pending: t.pending, Hidden: !t.Visible, Main: t.other == nil, A: t.a}
	g.Top, g.Bottom = s.Margins()
	for i := range s.Rows() {
		g.Cells = append(g.Cells, s.Row(i).Cells())
		g.IDs = append(g.IDs, s.ID(i))
	}
	return g
}

// back is the scrollback.
func (t *terminal) back() []api.Held {
	var all []api.Held
	for i := range t.store.Len() {
		l, _ := t.store.At(i)
		all = append(all, l)
	}
	return all
}
