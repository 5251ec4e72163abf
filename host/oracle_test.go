package host_test

import (
	"fmt"
	"reflect"
	"slices"
	"testing"
	"unicode/utf8"

	"tactile/api"
	"tactile/emu"
	"tactile/host"
	"tactile/keys"
	"tactile/parser"
)

// A paper is a host's end by the chapter's words. It keeps all bytes that came, and works out from the first one on what they say, so that where they were cut can't matter to it.
type paper struct {
	came []byte
	done int // so many of the acts that they say
	term *emu.Term
	sent []byte
}

// kinds of steps.
const (
	bytes = iota
	size
	key
	paste
	send
	asked
)

// A step is a call that may change something, or tells what is told once.
type step struct {
	kind       int
	b          []byte
	rows, cols int
	k          api.Key
	text       []int32
}

func (s step) String() string {
	switch s.kind {
	case bytes:
		return fmt.Sprintf("Bytes(%q)", s.b)
	case size:
		return fmt.Sprintf("Resize(%d, %d)", s.rows, s.cols)
	case key:
		return fmt.Sprintf("Key(%+v)", s.k)
	case paste:
		return fmt.Sprintf("Paste(%x)", s.text)
	case send:
		return fmt.Sprintf("Send(%q)", s.b)
	}
	return "Sent()"
}

// What a step tells: of Sent the bytes, of all others events and an error.
type told struct {
	events []api.Event
	err    api.Errno
	sent   string
}

// do does a step by the chapter's words.
func (p *paper) do(s step) (w told) {
	switch s.kind {
	case bytes:
		p.came = append(p.came, s.b...)
		all := acts(said(p.came))
		for _, x := range all[p.done:] {
			p.term.Do(x)
		}
		p.done = len(all)
		p.sent = append(p.sent, p.term.Replies()...)
		w.events = p.term.Journal()
	case size:
		w.err = p.term.Resize(s.rows, s.cols)
		w.events = p.term.Journal()
	case key:
		b, err := keys.Encode(p.term.Modes(), s.k)
		if w.err = err; err == api.OK {
			p.sent = append(p.sent, b...)
		}
	case paste:
		p.sent = append(p.sent, keys.Paste(p.term.Modes(), s.text)...)
	case send:
		p.sent = append(p.sent, s.b...)
	case asked:
		w.sent, p.sent = string(p.sent), nil
	}
	return w
}

// call does a step to a host's end.
func call(h *host.Host, s step) (w told) {
	switch s.kind {
	case bytes:
		w.events = h.Bytes(s.b)
	case size:
		w.events, w.err = h.Resize(s.rows, s.cols)
	case key:
		w.err = h.Key(s.k)
	case paste:
		w.err = h.Paste(s.text)
	case send:
		w.err = h.Send(s.b)
	case asked:
		w.sent = string(h.Sent())
	}
	return w
}

// said are the runes that bytes say, without what is open at their end.
func said(b []byte) (runes []int32) {
	for len(b) > 0 {
		r, n := utf8.DecodeRune(b)
		if r != utf8.RuneError || n == 3 { // a Bad that stands there itself has three bytes
			runes, b = append(runes, r), b[n:]
			continue
		}
		n = 1
		for n < len(b) && begins(b[:n+1]) {
			n++
		}
		if n == len(b) && begins(b) {
			break
		}
		runes, b = append(runes, api.Bad), b[n:]
	}
	return runes
}

// begins tells whether a longer sequence begins with these bytes: it is tried with each byte that is the lowest one of some bounds.
func begins(b []byte) bool {
	for _, next := range []byte{0x80, 0x90, 0xa0} {
		whole := append(slices.Clone(b), next, 0x80, 0x80)
		if r, n := utf8.DecodeRune(whole); (r != utf8.RuneError || n == 3) && n > len(b) {
			return true
		}
	}
	return false
}

// acts are what runes make, from the first one on.
func acts(runes []int32) (all []api.Act) {
	p := parser.New()
	for _, r := range runes {
		all = append(all, p.Feed(r)...)
	}
	return all
}

// A pair is a host's end, and the paper that it is held against.
type pair struct {
	t    *testing.T
	h    *host.Host
	p    *paper
	done []step
}

// made is a pair as at first.
func made(t *testing.T, rows, cols, back int) *pair {
	t.Helper()
	h, err := host.New(rows, cols, back)
	term, _ := emu.New(rows, cols, back)
	if h == nil || err != api.OK {
		t.Fatal(rows, cols, back, err)
	}
	return &pair{t: t, h: h, p: &paper{term: term}}
}

// do does steps to both, and holds what each tells.
func (d *pair) do(all ...step) {
	d.t.Helper()
	for _, s := range all {
		d.done = append(d.done, s)
		got, want := call(d.h, s), d.p.do(s)
		if !slices.Equal(got.events, want.events) || got.err != want.err || got.sent != want.sent {
			d.t.Fatalf("%v: %+v, not %+v", d.done, got, want)
		}
	}
}

// hold holds the terminal; what was sent is not asked for.
func (d *pair) hold() {
	d.t.Helper()
	term := d.p.term
	g := term.Grid()
	want := view{g, term.Modes(), term.Back(), term.Prints(), api.Spot{IDs: g.IDs, Cols: len(g.Cells[0]), Row: g.Row, Col: g.Col}}
	if got := look(d.h); !same(got, want) {
		d.t.Fatalf("%v:\n%+v\nnot\n%+v", d.done, got, want)
	}
}

// A view is all that may be seen of a terminal.
type view struct {
	grid   api.Grid
	modes  api.Modes
	back   []api.Held
	prints uint64
	spot   api.Spot
}

func look(h *host.Host) view {
	return view{h.Grid(), h.Modes(), h.Back(), h.Prints(), h.Spot()}
}

// same tells whether two views are; a list that is not there and an empty one are one.
func same(a, b view) bool {
	return reflect.DeepEqual(a.grid.IDs, b.grid.IDs) && slices.EqualFunc(a.grid.Cells, b.grid.Cells, sameCells) &&
		a.grid.Row == b.grid.Row && a.grid.Col == b.grid.Col && a.grid.Pending == b.grid.Pending &&
		a.grid.Hidden == b.grid.Hidden && a.grid.Main == b.grid.Main &&
		a.grid.Top == b.grid.Top && a.grid.Bottom == b.grid.Bottom && a.grid.A == b.grid.A &&
		a.modes == b.modes && a.prints == b.prints && reflect.DeepEqual(a.spot, b.spot) &&
		slices.EqualFunc(a.back, b.back, func(a, b api.Held) bool { return a.ID == b.ID && sameCells(a.Cells, b.Cells) })
}

func sameCells(a, b []api.Cell) bool {
	return slices.EqualFunc(a, b, func(a, b api.Cell) bool {
		return a.R == b.R && a.Wide == b.Wide && a.A == b.A && slices.Equal(a.Comb, b.Comb)
	})
}
