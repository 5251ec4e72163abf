package emu_test

import (
	"fmt"
	"slices"
	"strings"
	"testing"

	"tactile/api"
	"tactile/emu"
	"tactile/parser"
)

// A pair is a terminal, and the paper that it is held against.
type pair struct {
	t    *testing.T
	x    *emu.Term
	p    *paper
	done []any
}

// made is a pair as at first, to which acts of texts were done.
func made(t *testing.T, rows, cols, back int, texts ...string) *pair {
	t.Helper()
	x, err := emu.New(rows, cols, back)
	if x == nil || err != api.OK {
		t.Fatal(rows, cols, back, err)
	}
	d := &pair{t: t, x: x, p: newPaper(rows, cols, back), done: []any{[3]int{rows, cols, back}}}
	for _, text := range texts {
		d.write(text)
	}
	return d
}

// acts are what a text says.
func acts(text string) (all []api.Act) {
	p := parser.New()
	for _, r := range text {
		all = append(all, p.Feed(r)...)
	}
	return all
}

// write does what a text says to both.
func (d *pair) write(text string) {
	d.t.Helper()
	d.done = append(d.done, fmt.Sprintf("%q", text))
	d.both(acts(text)...)
}

// do does acts to both.
func (d *pair) do(all ...api.Act) {
	d.t.Helper()
	d.done = append(d.done, all)
	d.both(all...)
}

func (d *pair) both(all ...api.Act) {
	d.t.Helper()
	for _, x := range all {
		d.p.do(x)
		if err := d.x.Do(x); err != api.OK {
			d.t.Fatalf("%+v: %d", d.done, err)
		}
	}
}

// resize gives both another size.
func (d *pair) resize(rows, cols int) {
	d.t.Helper()
	d.done = append(d.done, fmt.Sprintf("Resize(%d, %d)", rows, cols))
	want := d.p.resize(rows, cols)
	if err := d.x.Resize(rows, cols); err != want {
		d.t.Fatalf("%+v: %d, not %d", d.done, err, want)
	}
}

// hold holds all that the terminal tells against the paper.
func (d *pair) hold() {
	d.t.Helper()
	if got, want := d.x.Grid(), d.p.grid(); !sameGrid(got, want) {
		d.t.Fatalf("%+v:\n%s\nnot\n%s", d.done, show(got), show(want))
	}
	if got := d.x.Modes(); got != d.p.modes {
		d.t.Fatalf("%+v: %+v, not %+v", d.done, got, d.p.modes)
	}
	if got := d.x.Back(); !slices.EqualFunc(got, d.p.back, sameHeld) {
		d.t.Fatalf("%+v: %v, not %v", d.done, got, d.p.back)
	}
	if got := d.x.Prints(); got != d.p.prints {
		d.t.Fatalf("%+v: %d prints, not %d", d.done, got, d.p.prints)
	}
	if got := d.x.Journal(); !slices.Equal(got, d.p.events) {
		d.t.Fatalf("%+v:\n%v\nnot\n%v", d.done, say(got), say(d.p.events))
	}
	if got := d.x.Replies(); string(got) != d.p.replied {
		d.t.Fatalf("%+v: %q, not %q", d.done, got, d.p.replied)
	}
	d.p.events, d.p.replied = nil, ""
}

// probe brings to light what a terminal does not show of itself: charsets, tabs, and what was saved of both screens.
const probe = "\u0301q#\u0301\x0eq#\x0fq#\r\t+\t+\x1b[Z-\x1b[6n\x1b8q#\n\x0eq#\x0f\x1b[6n\x1b[3G\r\n\x1b[?1049lq#\x1b8q#\n\x0eq#\x1b[1;1Hq\x1b[m "

// probed holds a pair as it is, and behind a probe.
func (d *pair) probed(look []api.Act) {
	d.t.Helper()
	d.hold()
	d.do(look...)
	d.hold()
}

func sameHeld(a, b api.Held) bool { return a.ID == b.ID && sameCells(a.Cells, b.Cells) }

// sameCells tells whether two rows' cells are.
func sameCells(a, b []api.Cell) bool {
	return slices.EqualFunc(a, b, func(a, b api.Cell) bool {
		return a.R == b.R && a.Wide == b.Wide && a.A == b.A && slices.Equal(a.Comb, b.Comb)
	})
}

func sameGrid(a, b api.Grid) bool {
	return slices.EqualFunc(a.Cells, b.Cells, sameCells) && slices.Equal(a.IDs, b.IDs) &&
		a.Row == b.Row && a.Col == b.Col && a.Pending == b.Pending && a.Hidden == b.Hidden &&
		a.Main == b.Main && a.Top == b.Top && a.Bottom == b.Bottom && a.A == b.A
}

// drawn are cells as a text: a point for a blank one, > for a right half, marks behind their rune.
func drawn(cells []api.Cell) string {
	var b strings.Builder
	for _, c := range cells {
		switch {
		case c.Wide == api.Right:
			b.WriteByte('>')
		case c.R == 32 && len(c.Comb) == 0:
			b.WriteByte('.')
		default:
			b.WriteString(string(c.R) + string(c.Comb))
		}
	}
	return b.String()
}

// screenOf is all that a grid's cells are, a stroke between two rows.
func screenOf(g api.Grid) string {
	var rows []string
	for _, cells := range g.Cells {
		rows = append(rows, drawn(cells))
	}
	return strings.Join(rows, "/")
}

// cursorOf is a grid's row and column, and ! if a wrap is pending.
func cursorOf(g api.Grid) string {
	s := fmt.Sprintf("%d,%d", g.Row, g.Col)
	if g.Pending {
		s += "!"
	}
	return s
}

// show is a grid, for those who look why it is another one.
func show(g api.Grid) string {
	grounds := [][]api.Attr{}
	for _, cells := range g.Cells {
		row := []api.Attr{}
		for _, c := range cells {
			row = append(row, c.A)
		}
		grounds = append(grounds, row)
	}
	return fmt.Sprint(screenOf(g), " ", g.IDs, " at ", cursorOf(g), " within ", g.Top, " to ", g.Bottom, " main ", g.Main, " hidden ", g.Hidden, " ", g.A, grounds)
}

// say tells events in words, a semicolon between two.
func say(all []api.Event) string {
	var told []string
	for _, e := range all {
		kind := map[uint8]string{1: "print", 2: "join", 3: "straight", 4: "other", 5: "reset"}[e.Kind]
		s := fmt.Sprintf("%s %d:%d", kind, e.Line, e.Col)
		if e.Kind == api.EvPrint || e.Kind == api.EvJoin || e.Index != 0 || e.R != 0 {
			s += fmt.Sprintf(" #%d %x", e.Index, e.R)
		}
		for i, on := range []bool{e.Wide, e.Blank, e.Last, e.Fresh, e.Wrap} {
			if on {
				s += []string{" wide", " blank", " last", " fresh", " wrap"}[i]
			}
		}
		told = append(told, s)
	}
	return strings.Join(told, "; ")
}
