package emu

import "tactile/api"

// tell puts an event behind the others.
func (t *terminal) tell(e api.Event) {
	t.last = e
	t.journal = append(t.journal, e)
}

// here is an event of the line and column of the cursor.
func (t *terminal) here(kind uint8) api.Event {
	return api.Event{Kind: kind, Line: t.shown().ID(t.row), Col: t.col}
}

// tellOther tells that something other than a rune or a straight move came.
func (t *terminal) tellOther() { t.tell(t.here(api.EvOther)) }

// tellStraight tells of a straight move within the line.
func (t *terminal) tellStraight() { t.tell(t.here(api.EvStraight)) }

// tellReset tells that all is as at first. It is of no cell, so that it has the line and column of the cursor, which are in the fresh lines by now.
func (t *terminal) tellReset() { t.tell(t.here(api.EvReset)) }

// tellFeed tells of a line feed, or of a wrap.
func (t *terminal) tellFeed(wrap bool) {
	e := t.here(api.EvStraight)
	e.Fresh = t.line().Blank(0)
	e.Wrap = wrap
	t.tell(e)
}

// tellRune tells of a print or a join; both are counted as one.
func (t *terminal) tellRune(e api.Event, r int32) {
	e.Index, e.R = t.prints, r
	t.prints++
	t.tell(e)
}

// isRuneAt tells whether an event is the print or a join of a cell.
func isRuneAt(e api.Event, line, col int) bool {
	return (e.Kind == api.EvPrint || e.Kind == api.EvJoin) && e.Line == line && e.Col == col
}
