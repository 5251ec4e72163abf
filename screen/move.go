package screen

import (
	"tactile/api"
	"tactile/lines"
)

// span is so many rows, from one on.
type span struct{ from, count int }

// end is the row behind a span.
func (s span) end() int { return s.from + s.count }

// change lets the lines of one span go, handing each to goes, the first one
// first; then fresh ones come in the other span, which is counted without those
// that have gone.
func (x *Screen) change(out, in span, a api.Attr, goes func(lines.Line)) {
	for _, l := range x.lines[out.from:out.end()] {
		goes(l)
	}
	x.closeUp(out)
	x.makeRoom(in)
	for i := range in.count {
		// The store was made, and the columns may be: nothing can be refused.
		x.lines[in.from+i], _ = x.store.Fresh(x.cols, a)
	}
}

// closeUp moves the lines behind a span over it.
func (x *Screen) closeUp(out span) {
	stay := len(x.lines) - out.count
	copy(x.lines[out.from:], x.lines[out.end():])
	// Rows that have gone are not to be held by the places behind the end.
	clear(x.lines[stay:])
	x.lines = x.lines[:stay]
}

// makeRoom moves the lines from a span's begin on behind it.
func (x *Screen) makeRoom(in span) {
	x.lines = append(x.lines, make([]lines.Line, in.count)...)
	copy(x.lines[in.end():], x.lines[in.from:])
}

// up lets n lines from a row within the margins on go; fresh ones come at the
// bottom margin.
func (x *Screen) up(from, n int, a api.Attr, goes func(lines.Line)) {
	n = x.held(n, from)
	x.change(span{from, n}, span{x.bottom + 1 - n, n}, a, goes)
}

// down lets n lines from the bottom margin on go; fresh ones come at a row
// within the margins.
func (x *Screen) down(to, n int, a api.Attr) {
	n = x.held(n, to)
	x.change(span{x.bottom + 1 - n, n}, span{to, n}, a, x.forget)
}

// held is n, but not below 0, nor above how many lines there are from a row on
// to the bottom margin.
func (x *Screen) held(n, from int) int { return max(0, min(n, x.bottom+1-from)) }

// fate is what becomes of lines that go from a row on up.
func (x *Screen) fate(from int) func(lines.Line) {
	if x.keeps && from == 0 {
		return x.keep
	}
	return x.forget
}

// keep pushes a line that goes into the store.
func (x *Screen) keep(l lines.Line) { x.store.Push(l) }

// forget does nothing for a line that goes.
func (x *Screen) forget(lines.Line) {}

// widen gives each row so many columns.
func (x *Screen) widen(cols int) {
	x.cols = cols
	for _, l := range x.lines {
		l.Row.Resize(cols)
	}
}

// wholeMargins lets the margins be the first row and the last one.
func (x *Screen) wholeMargins() { x.top, x.bottom = 0, len(x.lines)-1 }

// mayBeMargins tells whether rows may be margins: only whole ones may be one
// row alone.
func (x *Screen) mayBeMargins(top, bottom int) bool {
	last := len(x.lines) - 1
	whole := top == 0 && bottom == last
	return whole || top >= 0 && top < bottom && bottom <= last
}

// isWithin tells whether a row is within the margins.
func (x *Screen) isWithin(at int) bool { return at >= x.top && at <= x.bottom }
