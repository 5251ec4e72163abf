package frontier_test

import (
	"math/rand"
	"slices"
	"testing"

	"tactile/api"
	"tactile/frontier"
	"tactile/host"
)

// TestFollows: what is appended lands on blanks while the frontier is on, and
// behind an EvOther, or a join that is not of the last print, nothing is, till
// a fresh line or a reset comes.
func TestFollows(t *testing.T) {
	draw := rand.New(rand.NewSource(151))
	appended := 0
	for range 2000 {
		f, shut := frontier.New(), false
		for range 60 {
			x, was := drawn(draw), f.On()
			kind := x.to(f)
			switch {
			case x.e.Kind == api.EvOther, x.e.Kind == api.EvJoin && !x.e.Last:
				shut = true
			case x.e.Kind == api.EvReset, x.e.Kind == api.EvStraight && x.e.Fresh:
				shut = false
			}
			if shut && f.On() {
				t.Fatal("it is on again without a fresh line or a reset")
			}
			if x.e.Kind != api.EvPrint || kind != api.KindAppend {
				continue
			}
			if !x.e.Blank || !was || !f.On() || shut || x.echo {
				t.Fatalf("%v is appended: on %v, shut %v", x, was, shut)
			}
			appended++
		}
	}
	if appended < 1000 {
		t.Error("too few were appended:", appended)
	}
}

// pieces are what the hosts of the tests say.
var pieces = []string{
	"a", "b", "ls", " ", "long words here", "\u4e00", "\u0301", "\r", "\n", "\r\n", "\r\n", "\t", "\b", "\x0b", "\x0c",
	"\x1bD", "\x1bE", "\x1bM", "\x1b7", "\x1b8", "\x1b[H", "\x1b[2;3H", "\x1b[A", "\x1b[B", "\x1b[2C", "\x1b[K", "\x1b[2J", "\x1b[J",
	"\x1b[L", "\x1b[M", "\x1b[@", "\x1b[P", "\x1b[X", "\x1b[S", "\x1b[T", "\x1b[2;3r", "\x1b[r", "\x1b[4h", "\x1b[4l",
	"\x1b[?7l", "\x1b[?7h", "\x1b[?1049h", "\x1b[?1049l", "\x1b[1m", "\x1b[41m", "\x1b[m", "\x1bc",
}

// isBlankAt tells whether a line's cells from a column on were blank. A line
// that was not shown was fresh.
func isBlankAt(g api.Grid, line, col int) bool {
	row := slices.Index(g.IDs, line)
	if row < 0 {
		return true
	}
	for _, c := range g.Cells[row][col:] {
		if c.R != 32 || len(c.Comb) > 0 || c.Wide != api.Whole {
			return false
		}
	}
	return true
}

// TestOnScreens: with what happens on terminals, what is appended lands on
// cells that were blank, and so were all to the right of them.
func TestOnScreens(t *testing.T) {
	draw := rand.New(rand.NewSource(152))
	appended := 0
	for range 60 {
		h, err := host.New(1+draw.Intn(4), 1+draw.Intn(12), 5)
		if err != api.OK {
			t.Fatal(err)
		}
		f, all := frontier.New(), tale(nil)
		for range 60 {
			for _, b := range []byte(pieces[draw.Intn(len(pieces))]) {
				g := h.Grid()
				for _, e := range h.Bytes([]byte{b}) {
					x := fed{e, draw.Intn(8) == 0}
					kind := x.to(f)
					if all = append(all, x); kind != all.kind() || f.On() != all.on() {
						t.Fatalf("%v: %d %v", all, kind, f.On())
					}
					if e.Kind != api.EvPrint || kind != api.KindAppend {
						continue
					}
					if !isBlankAt(g, e.Line, e.Col) {
						t.Fatalf("%v is appended, but not on blanks", e)
					}
					appended++
				}
			}
		}
	}
	if appended < 500 {
		t.Error("too few were appended:", appended)
	}
}

// TestOnAScreen: what a host says, as a reader would have it told.
func TestOnAScreen(t *testing.T) {
	for _, x := range []struct {
		says string
		kind string // of each print and join
		on   bool
	}{
		{"ab", "aa", true},
		{"ab\rx", "aar", false},
		{"ab\r\nx", "aaa", true},
		{"ab\bx", "aar", false},
		{"ab\x1b[3;1Hx\r\ny", "aara", true},
		{"ab\x1b[3;1Hx\ny", "aara", true},
		{"a\u0301", "aa", true},
		{"ab\x1b[H\u0301x\u0301", "aarr", false},
		{"ab\u0301\u0302x", "aaaaa", true},
		{"ab\x1b[1m\u0301x", "aaaa", true},
		{"ab\t\u0301x", "aarr", false},
		{"ab\t\u0301\r\nx", "aara", true},
		{"ab\n\u0301x", "aarr", false},
		{"ab\n\u0301\u0302x\nx", "aarara", true},
		{"ab\r\n\u0301x", "aaa", true},
		{"ab\x1bc\t\u0301x", "aarr", false},
		{"\t\u0301x", "rr", false},
		{"\t\u0301\x1bcx", "ra", true},
		{"ab\x1b[2J\x1bcx", "aaa", true},
		{"abcdefghij", "aaaaaaaaaa", true},
		{"\x1b[2;1Hx\x1b[1;7Hyyz", "rrrr", false},
		{"\x1b[1;7Hyyz", "rra", true},
	} {
		h, _ := host.New(4, 8, 5)
		f, kinds := frontier.New(), ""
		for _, e := range h.Bytes([]byte(x.says)) {
			if kind := f.Feed(e, false); kind != api.KindNone {
				kinds += string(kindLetters[kind])
			}
		}
		if kinds != x.kind || f.On() != x.on {
			t.Errorf("%q: %s %v, not %s %v", x.says, kinds, f.On(), x.kind, x.on)
		}
	}
}
