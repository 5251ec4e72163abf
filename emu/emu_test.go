package emu_test

import (
	"fmt"
	"math"
	"reflect"
	"slices"
	"strings"
	"testing"

	"tactile/api"
	"tactile/emu"
	"tactile/parser"
)

// far are numbers beyond any bound.
var far = []int{math.MinInt, math.MinInt + 1, -1 << 32, -513, -1, 1<<32 + 1, math.MaxInt - 1, math.MaxInt}

// TestNew: of sizes and scrollbacks about the bounds, and of those that may not be.
func TestNew(t *testing.T) {
	sizes := append([]int{0, 1, 2, 80, 511, 512, 513}, far...)
	backs := append([]int{0, 1, 2, 9999, 10000, 10001}, far...)
	for _, rows := range sizes {
		for _, cols := range sizes {
			for _, back := range backs {
				may := rows >= 1 && rows <= 512 && cols >= 1 && cols <= 512 && back >= 0 && back <= 10000
				if may && rows*cols > 2000 && back != 10000 {
					continue
				}
				x, err := emu.New(rows, cols, back)
				if may != (x != nil) || may != (err == api.OK) || !may && err != api.ErrArg {
					t.Fatal(rows, cols, back, x, err)
				}
				if may {
					d := &pair{t: t, x: x, p: newPaper(rows, cols, back)}
					d.hold()
				}
			}
		}
	}
}

// TestAtFirst: a terminal to which nothing was done, outright.
func TestAtFirst(t *testing.T) {
	x, err := emu.New(2, 20, 5)
	if err != api.OK {
		t.Fatal(err)
	}
	blank := slices.Repeat([]api.Cell{{R: 32}}, 20)
	want := api.Grid{Cells: [][]api.Cell{blank, blank}, IDs: []int{1, 2}, Main: true, Bottom: 1}
	if g := x.Grid(); !reflect.DeepEqual(g, want) {
		t.Error(g)
	}
	if m := x.Modes(); m != (api.Modes{AutoWrap: true, Visible: true}) {
		t.Error(m)
	}
	if len(x.Back()) != 0 || x.Prints() != 0 || len(x.Journal()) != 0 || len(x.Replies()) != 0 {
		t.Error(x.Back(), x.Prints(), x.Journal(), x.Replies())
	}
	do(x, "\t1\t2\t3\r\n\x1b8#q\x0e#q")
	if g := x.Grid(); screenOf(g) != "#q#q....1.......2..3/...................." {
		t.Error(screenOf(g))
	}
}

// TestReset: as at first, but that ids and prints are counted on.
func TestReset(t *testing.T) {
	for _, state := range states() {
		d := made(t, 4, 17, 3, state)
		prints, next := d.x.Prints(), d.p.ids+1
		d.hold()
		d.do(esc("", 'c'))
		g := d.x.Grid()
		first, _ := emu.New(4, 17, 3)
		want := first.Grid()
		want.IDs = []int{next, next + 1, next + 2, next + 3}
		if !reflect.DeepEqual(g, want) || d.x.Modes() != first.Modes() || len(d.x.Back()) != 0 || d.x.Prints() != prints {
			t.Fatalf("%q: %s", state, show(g))
		}
		d.hold()
		d.write("\t+\t+")
		d.probed(acts(probe))
	}
}

// TestEventsAreWhereTheCursorIs: the event that was told last is of the cursor's line, in the cursor's column, if it is of no cell.
func TestEventsAreWhereTheCursorIs(t *testing.T) {
	const all = "\x1b7|\r|\n|\t|\b|\x1bD|\x1bE|\x1bM|\u0084|\u0085|\u008d|\x1b[B|\x1b[2;2H|\x1b[J|\x1b[L|\x1b[T|\x1b[1;2r|\x1b[?6h|\x1b[?47h|\x1b8|\x1b[?1049l|a|\u4e00|\u0301|\x1bc|\x1b[?1049h|\x1bc|\n|\x1bc"
	for _, size := range many {
		for _, state := range states() {
			x := run(t, size[0], size[1], state)
			for _, text := range strings.Split(all, "|") {
				x.Journal()
				do(x, text)
				g, told := x.Grid(), x.Journal()
				if len(told) == 0 {
					continue
				}
				last := told[len(told)-1]
				ofCell := last.Kind == api.EvPrint || last.Kind == api.EvJoin
				if last.Line != g.IDs[g.Row] || !ofCell && last.Col != g.Col {
					t.Fatalf("%v %q, then %q: %s, but %s", size, state, text, say(told), show(g))
				}
				if text == "\x1bc" && last.Kind != api.EvReset {
					t.Fatalf("%v %q: %s", size, state, say(told))
				}
			}
		}
	}
}

// TestResize: from each state to sizes about it, and back.
func TestResize(t *testing.T) {
	for _, state := range states() {
		t.Run("", func(t *testing.T) {
			t.Parallel()
			first, look := acts(state), acts(probe)
			for _, size := range many {
				for _, rows := range []int{1, 2, 3, 7} {
					for _, cols := range []int{1, 2, 5, 25} {
						d := made(t, size[0], size[1], 4)
						d.do(first...)
						d.resize(rows, cols)
						d.probed(look)
						d = made(t, size[0], size[1], 4)
						d.do(first...)
						d.resize(rows, cols)
						d.resize(size[0], size[1])
						d.probed(look)
					}
				}
			}
		})
	}
}

// TestResizeTold: some of it outright.
func TestResizeTold(t *testing.T) {
	const lines = "a\r\nb\r\nc\r\nd"
	for _, e := range []struct {
		rows, cols           int
		text                 string
		toRows, toCols       int
		then                 string
		cells, cursor, lines string
	}{
		{4, 3, lines, 4, 3, "", "a../b../c../d..", "3,1", "[1 2 3 4] []"},
		{4, 3, lines, 2, 3, "", "c../d..", "1,1", "[3 4] [1 2]"},
		{4, 3, lines, 1, 3, "", "d..", "0,1", "[4] [1 2 3]"},
		{4, 3, lines + "\x1b[2;1H", 2, 3, "", "a../b..", "1,0", "[1 2] []"},
		{4, 3, lines + "\x1b[3;1H", 2, 3, "", "b../c..", "1,0", "[2 3] [1]"},
		{4, 3, lines, 6, 4, "", "a.../b.../c.../d.../..../....", "3,1", "[1 2 3 4 5 6] []"},
		{4, 3, "abc", 4, 3, "", "abc/.../.../...", "0,2", "[1 2 3 4] []"},
		{4, 3, "abc", 4, 3, "x", "abx/.../.../...", "0,2!", "[1 2 3 4] []"},
		{4, 3, "abc", 4, 2, "", "ab/../../..", "0,1", "[1 2 3 4] []"},
		{4, 3, "abc", 4, 5, "x", "abx../...../...../.....", "0,3", "[1 2 3 4] []"},
		{1, 4, "ab\u4e00", 1, 3, "", "ab.", "0,2", "[1] []"},
		// Margins are whole then.
		{4, 3, "\x1b[2;3r\x1b[3;1H", 4, 3, "\n\nx", ".../.../.../x..", "3,1", "[2 3 4 5] [1]"},
		{4, 3, "\x1b[2;3r\x1b[?6h", 4, 3, "\x1b[Hx", "x../.../.../...", "0,1", "[1 2 3 4] []"},
		// What was saved is held.
		{4, 3, "\x1b[4;3H\x1b7\x1b[H", 2, 2, "\x1b8x", "../.x", "1,1!", "[1 2] []"},
		{4, 3, "\x1b[2;2H\x1b7\x1b[H", 3, 3, "\x1b8x", ".../.x./...", "1,2", "[1 2 3] []"},
		{1, 4, "abcd\x1b7\r", 2, 3, "\x1b8x", "abc/x..", "1,1", "[1 2] []"},
		{1, 4, "abcd\x1b7\r", 2, 6, "\x1b8x", "abcx../......", "0,4", "[1 2] []"},
		{1, 4, "abc\x1b7\r", 2, 3, "\x1b8x", "abx/...", "0,2!", "[1 2] []"},
		// The other screen is shown: the main one goes by what was saved of it.
		{4, 3, lines + "\x1b[?1049h", 2, 3, "", ".../...", "1,1", "[7 8] [1 2]"},
		{4, 3, lines + "\x1b[?1049h", 2, 3, "\x1b[?1049l", "c../d..", "1,1", "[3 4] [1 2]"},
		{4, 3, lines + "\x1b[?47h", 2, 3, "\x1b[?47l", "a../b..", "1,1", "[1 2] []"},
		{4, 3, lines + "\x1b[3;1H\x1b7\x1b[?47h\x1b[H", 2, 3, "\x1b[?47l\x1b8", "b../c..", "1,0", "[2 3] [1]"},
		{4, 3, lines + "\x1b[?1049h", 5, 2, "\x1b[?1049l", "a./b./c./d./..", "3,1", "[1 2 3 4 10] []"},
		{4, 3, "\x1b[?47h" + lines, 2, 3, "", "c../d..", "1,1", "[7 8] []"},
		{4, 3, "\x1b[?47h\x1b[4;3H\x1b7\x1b[H", 2, 2, "\x1b8x", "../.x", "1,1!", "[5 6] []"},
		// Tabs.
		{1, 10, "", 1, 20, "\ta\tb", "........a.......b...", "0,17", "[1] []"},
		{1, 20, "\x1b[3g", 1, 10, "\ta", ".........a", "0,9!", "[1] []"},
		{1, 10, "\x1b[3g\x1b[3G\x1bH\r", 1, 20, "\ta\tb", "..a.............b...", "0,17", "[1] []"},
	} {
		x := run(t, e.rows, e.cols, e.text)
		x.Journal()
		if err := x.Resize(e.toRows, e.toCols); err != api.OK {
			t.Fatal(e, err)
		}
		g := x.Grid()
		if got, want := say(x.Journal()), fmt.Sprintf("other %d:%d", g.IDs[g.Row], g.Col); got != want {
			t.Errorf("%+v: %s, not %s", e, got, want)
		}
		do(x, e.then)
		g = x.Grid()
		back := []int{}
		for _, l := range x.Back() {
			back = append(back, l.ID)
		}
		if got := fmt.Sprint(g.IDs, back); screenOf(g) != e.cells || cursorOf(g) != e.cursor || got != e.lines {
			t.Errorf("%+v: %s at %s, %s", e, screenOf(g), cursorOf(g), got)
		}
	}
}

// TestResizeRefused: sizes that may not be change nothing, and tell of nothing.
func TestResizeRefused(t *testing.T) {
	for _, state := range states() {
		d := made(t, 4, 5, 3, state)
		d.hold()
		for _, n := range append([]int{0, 513}, far...) {
			d.resize(n, 5)
			d.resize(4, n)
			d.resize(n, n)
			if err := d.x.Resize(n, 5); err != api.ErrArg {
				t.Fatal(n, err)
			}
		}
		d.probed(acts(probe))
	}
}

// TestGreat: the greatest terminal.
func TestGreat(t *testing.T) {
	d := made(t, 512, 512, 10000, "\x1b[512;512Hx\u0301y\x1b[600S\x1b[2;511r\x1b[999;999H\n\x1bM\u4e00\x1b[?1049h\x1b[600Tz\x1b[?1049l\x1b[99I\x1b[Z\x1b[J")
	d.probed(acts(probe))
	d.resize(1, 1)
	d.resize(512, 512)
	d.probed(acts(probe))
}

// TestBackIsCut: the scrollback has the last lines, as many as it may.
func TestBackIsCut(t *testing.T) {
	for _, back := range []int{0, 1, 7} {
		d := made(t, 2, 3, back)
		for i := range 30 {
			d.write(fmt.Sprint("\r\n", i))
			d.hold()
		}
		if got := len(d.x.Back()); got != back {
			t.Error(back, got)
		}
	}
}

// sound holds what follows from all that a terminal does: the cursor within the screen, a wrap pending in the last column alone, halves side by side, ids unlike.
func sound(x *emu.Term) string {
	g := x.Grid()
	rows, cols := len(g.Cells), len(g.Cells[0])
	switch {
	case g.Row < 0 || g.Row >= rows || g.Col < 0 || g.Col >= cols:
		return "the cursor is beyond"
	case g.Pending && g.Col != cols-1:
		return "a wrap is pending ahead of the last column"
	case g.Top < 0 || g.Bottom >= rows || g.Top >= g.Bottom && rows > 1:
		return "margins"
	case g.Main == x.Modes().Alternate || g.Hidden == x.Modes().Visible:
		return "modes"
	}
	seen := map[int]bool{}
	for _, l := range x.Back() {
		g.IDs, g.Cells = append(g.IDs, l.ID), append(g.Cells, l.Cells)
	}
	for i, id := range g.IDs {
		if seen[id] || id < 1 {
			return fmt.Sprint("the id ", id)
		}
		seen[id] = true
		for k, c := range g.Cells[i] {
			left := c.Wide == api.Left
			if left != (k+1 < len(g.Cells[i]) && g.Cells[i][k+1].Wide == api.Right) || k == 0 && c.Wide == api.Right {
				return fmt.Sprint("halves in ", drawn(g.Cells[i]))
			}
		}
	}
	return ""
}

// indexed holds that the events' indexes rise by one from a number on, and tells the next one.
func indexed(t *testing.T, all []api.Event, from uint64) uint64 {
	t.Helper()
	for _, e := range all {
		if e.Kind == api.EvPrint || e.Kind == api.EvJoin {
			if e.Index != from {
				t.Fatal(e, from)
			}
			from++
		}
	}
	return from
}

// drawnActs are acts that are drawn by numbers.
func drawnActs(next func(int) int) []api.Act {
	small := func() int { return next(9) - 1 }
	switch next(9) {
	case 0, 1:
		var all []api.Act
		for range next(8) {
			all = append(all, print([]int32{'a', 'b', ' ', 'q', '#', 0x4e00, 0x4e01, 0x301}[next(8)]))
		}
		return all
	case 2, 3:
		return []api.Act{exec([]int32{8, 9, 10, 11, 12, 13, 14, 15, 0x84, 0x85, 0x88, 0x8d, 7}[next(13)])}
	case 4:
		return []api.Act{esc("", []int32("78DEHMDEHM78")[next(12)])}
	case 5:
		return []api.Act{esc([]string{"(", ")"}[next(2)], []int32("0AB")[next(3)])}
	case 6:
		return []api.Act{csi([]int32("hl")[next(2)], []int{4, 20, 5}[next(3)]), csi('m', next(108))}
	case 7:
		numbers := []int{1, 6, 7, 25, 47, 1047, 1048, 1049, 2004, 6, 7, 1049}
		return []api.Act{private([]int32("hl")[next(2)], numbers[next(12)], numbers[next(12)])}
	}
	final := []int32("ABCDEFG`HfdIZJKX@PLMSTrrrgnc")[next(28)]
	return []api.Act{csi(final, small(), small())}
}

// TestLong: long rows of acts of all kinds, and other sizes between them.
func TestLong(t *testing.T) {
	for round := range 120 {
		t.Run("", func(t *testing.T) {
			t.Parallel()
			x := uint32(round*7 + 1)
			next := func(n int) int {
				x = x*1664525 + 1013904223
				return int(x>>16) % n
			}
			d := made(t, 1+next(6), 1+next(12), next(9))
			index := uint64(0)
			for range 400 {
				switch next(60) {
				case 0:
					d.resize(1+next(7), 1+next(14))
				case 1:
					d.do(esc("", 'c'))
				default:
					d.do(drawnActs(next)...)
				}
				index = indexed(t, d.p.events, index)
				d.hold()
				if what := sound(d.x); what != "" {
					t.Fatal(d.done, what)
				}
			}
			d.probed(acts(probe))
		})
	}
}

// TestAnyAct: acts of any numbers, which no parser would tell.
func TestAnyAct(t *testing.T) {
	x := uint32(99)
	next := func(n int) int {
		x = x*1664525 + 1013904223
		return int(x>>16) % n
	}
	for range 60 {
		d := made(t, 1+next(4), 1+next(6), next(4))
		for range 300 {
			a := api.Act{Kind: uint8(next(8)), R: int32(next(0xb0)), Final: int32(next(0x80))}
			switch next(3) {
			case 0:
				a.R = []int32{math.MinInt32, -1, 0xd800, 0xdfff, 0x10ffff, 0x110000, math.MaxInt32}[next(7)]
			case 1:
				a.Private = '?'
			}
			if next(4) == 0 {
				a.Inter = []int32("( )#")[next(4):]
			}
			for range next(40) {
				a.Params = append(a.Params, append([]int{0, 1, 2, 3, 4, 6, 7, 20, 25, 47, 1048, 1049}, far...)[next(20)])
			}
			d.do(a)
			d.hold()
			if what := sound(d.x); what != "" {
				t.Fatal(d.done, what)
			}
		}
	}
}

// TestAskedTwice: the journal and the replies are told once, all else as often as it is asked.
func TestAskedTwice(t *testing.T) {
	for _, state := range states() {
		x := run(t, 4, 5, state+"a\u0301\x1b[6n\x1b[c")
		if !reflect.DeepEqual(x.Grid(), x.Grid()) || !reflect.DeepEqual(x.Back(), x.Back()) || x.Modes() != x.Modes() || x.Prints() != x.Prints() {
			t.Errorf("%q: told another way", state)
		}
		if len(x.Journal()) == 0 || len(x.Replies()) == 0 {
			t.Errorf("%q: nothing is told", state)
		}
		if e, b := x.Journal(), x.Replies(); len(e) != 0 || len(b) != 0 {
			t.Errorf("%q: %v, %q", state, say(e), b)
		}
		do(x, "\r\x1b[5n")
		if e, b := x.Journal(), x.Replies(); len(e) != 1 || e[0].Kind != api.EvStraight || string(b) != "\x1b[0n" {
			t.Errorf("%q: %v, %q", state, say(e), b)
		}
	}
}

// TestLastIsKnown: of which cell the event ahead was is known also where the journal was asked since.
func TestLastIsKnown(t *testing.T) {
	x := run(t, 2, 5, "a")
	for _, r := range []int32{0x301, 0x302} {
		x.Journal()
		x.Do(print(r))
		if e := x.Journal(); len(e) != 1 || !e[0].Last {
			t.Error(say(e))
		}
	}
	do(x, "\x08\x1b[C")
	x.Journal()
	x.Do(print(0x301))
	if e := x.Journal(); len(e) != 1 || e[0].Last {
		t.Error(say(e))
	}
}

// spoil writes over all that a terminal has told.
func spoil(g api.Grid, back []api.Held, all []api.Event, replies []byte) {
	for _, l := range back {
		g.Cells = append(g.Cells, l.Cells)
	}
	clear(back)
	for _, cells := range g.Cells {
		for i := range cells {
			for k := range cells[i].Comb {
				cells[i].Comb[k] = 'x'
			}
			cells[i].Comb = append(cells[i].Comb, 'y')
			cells[i] = api.Cell{R: 'z', Wide: api.Left, A: api.Attr{Bg: 9}}
		}
	}
	for i := range g.IDs {
		g.IDs[i] = -1
	}
	clear(all[:cap(all)])
	clear(replies[:cap(replies)])
}

// TestMemory: what is told may be written over, and what was handed in, too.
func TestMemory(t *testing.T) {
	for _, state := range states() {
		d := made(t, 4, 5, 3, state)
		for _, a := range acts("a\u0301\u4e00\u0302\x1b[6n\x1b[1;3;44mb\x1b[?1049;25hc\x1b[5n\x1b(0q\x1b7\n\x1b[2;3r\x1b8\x1b[?25;1049ld\r\n\n\n\n") {
			d.do(a)
			spoil(d.x.Grid(), d.x.Back(), d.x.Journal(), d.x.Replies())
			d.p.events, d.p.replied = nil, ""
			clear(a.Params)
			clear(a.Inter)
		}
		d.hold()
	}
}

// TestToldStays: what was told does not change with the terminal.
func TestToldStays(t *testing.T) {
	x := run(t, 2, 3, "abc\u0301def\x1b[6n")
	g, back, all, replies := x.Grid(), x.Back(), x.Journal(), x.Replies()
	said := fmt.Sprint(show(g), back, say(all), replies)
	do(x, "ghi\u0301jkl\u0301mno\x1b[5n\x1b[c\x1b[2J\x1b[3Jp")
	x.Resize(3, 4)
	x.Journal()
	if now := fmt.Sprint(show(g), back, say(all), replies); now != said {
		t.Errorf("%s\nnot\n%s", now, said)
	}
}

// TestHandedIn: what is handed in is not changed.
func TestHandedIn(t *testing.T) {
	x := run(t, 3, 4, "")
	for _, a := range []api.Act{csi('H', -1, 1<<40), csi('m', 1, -3, 65536), csi('h', -4, 4, 1<<40), private('h', -6, 6, 1<<40, 1049), csi('r', -1, 1<<40), esc("(", '0')} {
		b := api.Act{Kind: a.Kind, Private: a.Private, Params: slices.Clone(a.Params), Inter: slices.Clone(a.Inter), Final: a.Final}
		x.Do(a)
		if !reflect.DeepEqual(a, b) {
			t.Errorf("%+v, not %+v", a, b)
		}
	}
}

// TestApart: two terminals know nothing of each other.
func TestApart(t *testing.T) {
	d, e := made(t, 2, 3, 2, "ab"), made(t, 2, 3, 2)
	d.write("\x1b7\x1b(0qrs\x1b[?1049h")
	e.write("\x1b8#q\r\n\nx")
	d.hold()
	e.probed(acts(probe))
	d.probed(acts(probe))
}

// TestNobody: a terminal that is not there, and a zero one, are asked in vain.
func TestNobody(t *testing.T) {
	for _, x := range []*emu.Term{nil, {}, new(emu.Term)} {
		for range 2 {
			for _, a := range append(nothing(), acts("a\u0301\u4e00\n\t\r\x1b7\x1b8\x1bc\x1b(0\x1b[H\x1b[J\x1b[2;3r\x1b[m\x1b[4h\x1b[?1049h\x1b[6n\x1b[c")...) {
				if err := x.Do(a); err != api.ErrNil {
					t.Fatal(a, err)
				}
			}
			for _, n := range append([]int{0, 1, 2, 512, 513}, far...) {
				if x.Resize(n, n) != api.ErrNil || x.Resize(n, 1) != api.ErrNil || x.Resize(1, n) != api.ErrNil {
					t.Fatal(n)
				}
			}
			if g := x.Grid(); !reflect.DeepEqual(g, api.Grid{}) || x.Modes() != (api.Modes{}) || x.Prints() != 0 {
				t.Error(g, x.Modes(), x.Prints())
			}
			if len(x.Back()) != 0 || len(x.Journal()) != 0 || len(x.Replies()) != 0 {
				t.Error(x.Back(), x.Journal(), x.Replies())
			}
		}
	}
}

// TestExample: the document's ones of the whole that a terminal alone shows.
func TestExample(t *testing.T) {
	x, _ := emu.New(2, 4, 0)
	p := parser.New()
	for _, r := range "abcde\x1b[6n" {
		for _, a := range p.Feed(r) {
			x.Do(a)
		}
	}
	if g := x.Grid(); screenOf(g) != "abcd/e..." || string(x.Replies()) != "\x1b[2;2R" {
		t.Error(screenOf(g))
	}
}
