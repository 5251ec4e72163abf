package host_test

import (
	"fmt"
	"math"
	"slices"
	"strings"
	"testing"

	"tactile/api"
	"tactile/emu"
	"tactile/host"
	"tactile/keys"
)

// far are numbers beyond any bound.
var far = []int{math.MinInt, math.MinInt + 1, -1 << 32, -513, -1, 1<<32 + 1, math.MaxInt - 1, math.MaxInt}

// come, sized, typed, pasted, sends and ask are steps.
func come(text string) step           { return step{kind: bytes, b: []byte(text)} }
func sized(rows, cols int) step       { return step{kind: size, rows: rows, cols: cols} }
func typed(k api.Key) step            { return step{kind: key, k: k} }
func pasted(text string) step         { return step{kind: paste, text: []int32(text)} }
func sends(text string) step          { return step{kind: send, b: []byte(text)} }
func ask() step                       { return step{kind: asked} }
func rune32(r int32, mods uint8) step { return typed(api.Key{Kind: api.KeyRune, R: r, Mods: mods}) }

// begun is a host's end to which bytes came.
func begun(t *testing.T, rows, cols int, texts ...string) *host.Host {
	t.Helper()
	h, err := host.New(rows, cols, 9)
	if err != api.OK {
		t.Fatal(rows, cols, err)
	}
	for _, text := range texts {
		h.Bytes([]byte(text))
	}
	return h
}

// drawn are a grid's cells as a text: a point for a blank one, > for a right half, marks behind their rune, a stroke between two rows.
func drawn(g api.Grid) string {
	var b strings.Builder
	for i, cells := range g.Cells {
		if i > 0 {
			b.WriteByte('/')
		}
		for _, c := range cells {
			switch {
			case c.Wide == api.Right:
				b.WriteByte('>')
			case c.R == 32 && len(c.Comb) == 0:
				b.WriteByte('.')
			default:
				b.WriteString(string(c.R) + string(c.Comb))
			}
		}
	}
	return b.String()
}

// say tells events in words, a semicolon between two.
func say(all []api.Event) string {
	var told []string
	for _, e := range all {
		kind := map[uint8]string{1: "print", 2: "join", 3: "straight", 4: "other", 5: "reset"}[e.Kind]
		s := fmt.Sprintf("%s %d:%d", kind, e.Line, e.Col)
		if e.Kind == api.EvPrint || e.Kind == api.EvJoin || e.Index != 0 || e.R != 0 {
			s += fmt.Sprintf(" #%d %x", e.Index, e.R)
		}
		for i, on := range []bool{e.Wide, e.Blank, e.Last, e.Fresh, e.Wrap} {
			if on {
				s += []string{" wide", " blank", " last", " fresh", " wrap"}[i]
			}
		}
		told = append(told, s)
	}
	return strings.Join(told, "; ")
}

// TestNew: of sizes and scrollbacks about the bounds, and of those that may not be.
func TestNew(t *testing.T) {
	sizes := append([]int{0, 1, 2, 80, 511, 512, 513}, far...)
	backs := append([]int{0, 1, 2, 9999, 10000, 10001}, far...)
	for _, rows := range sizes {
		for _, cols := range sizes {
			for _, back := range backs {
				may := rows >= 1 && rows <= 512 && cols >= 1 && cols <= 512 && back >= 0 && back <= 10000
				if may && rows*cols > 2000 && back != 10000 {
					continue
				}
				h, err := host.New(rows, cols, back)
				if may != (h != nil) || may != (err == api.OK) || !may && err != api.ErrArg {
					t.Fatal(rows, cols, back, h, err)
				}
				if may {
					d := &pair{t: t, h: h, p: &paper{}}
					d.p.term, _ = emu.New(rows, cols, back)
					d.hold()
					d.do(ask(), come(""), ask())
				}
			}
		}
	}
}

// TestAtFirst: a host's end to which nothing happened, outright.
func TestAtFirst(t *testing.T) {
	h := begun(t, 2, 3)
	blank := slices.Repeat([]api.Cell{{R: 32}}, 3)
	want := view{
		grid:  api.Grid{Cells: [][]api.Cell{blank, blank}, IDs: []int{1, 2}, Main: true, Bottom: 1},
		modes: api.Modes{AutoWrap: true, Visible: true},
		spot:  api.Spot{IDs: []int{1, 2}, Cols: 3},
	}
	if got := look(h); !same(got, want) {
		t.Errorf("%+v", got)
	}
	if b := h.Sent(); len(b) != 0 {
		t.Errorf("%q", b)
	}
	if e := h.Bytes(nil); len(e) != 0 {
		t.Error(say(e))
	}
}

// TestBackIsAsLong: the scrollback has as many lines as New was told.
func TestBackIsAsLong(t *testing.T) {
	for _, back := range []int{0, 1, 3, 10000} {
		h, _ := host.New(2, 4, back)
		h.Bytes([]byte(strings.Repeat("x\r\n", 6)))
		if got := len(h.Back()); got != min(back, 5) {
			t.Error(back, got)
		}
	}
}

// TestShown: cells, what is sent, and where the cursor is, outright; a stroke parts chunks.
func TestShown(t *testing.T) {
	for _, x := range []struct {
		rows, cols         int
		chunks, cells, out string
		row, col           int
	}{
		// The chapter's examples, and DOC.md's.
		{1, 4, "a\xc3|\xa9", "a\u00e9..", "", 0, 2},
		{1, 4, "\x1b[|6n", "....", "\x1b[1;1R", 0, 0},
		{1, 4, "a\xc3|\xa4", "a\u00e4..", "", 0, 2},
		{2, 4, "abcde", "abcd/e...", "", 1, 1},
		{2, 4, "abcde|\x1b[6n", "abcd/e...", "\x1b[2;2R", 1, 1},

		// Nothing.
		{1, 4, "", "....", "", 0, 0},
		{1, 4, "|||", "....", "", 0, 0},
		{1, 4, "a||b|", "ab..", "", 0, 2},

		// Runes cut within their bytes; what is open stays, and is nothing yet.
		{1, 4, "\xc3", "....", "", 0, 0},
		{1, 4, "\xe4|\xb8", "....", "", 0, 0},
		{1, 4, "\xe4|\xb8|\x80", "\u4e00>..", "", 0, 2},
		{1, 4, "\xf0|\x9f|\x98|\x80x", "\U0001f600>x.", "", 0, 3},
		{1, 4, "a|\xcc|\x81|b", "a\u0301b..", "", 0, 2},
		{1, 4, "\xe4\xb8|x", "\ufffdx..", "", 0, 2},
		{1, 4, "\xe4|\xe4\xb8\x80", "\ufffd\u4e00>.", "", 0, 3},

		// What is no UTF-8.
		{1, 6, "\x80|\xff\xc0", "\ufffd\ufffd\ufffd...", "", 0, 3},
		{1, 6, "\xf0|\x90|a|\xe0|\x80", "\ufffda\ufffd\ufffd..", "", 0, 4},
		{1, 6, "\xed|\xa0|\x80", "\ufffd\ufffd\ufffd...", "", 0, 3},
		{1, 6, "\x9b|6n", "\ufffd6n...", "", 0, 3},
		{1, 6, "\xc2|\x9b|6|n", "......", "\x1b[1;1R", 0, 0},

		// Sequences of each kind, cut within.
		{2, 4, "\x1b|[|2|;|3|H|x", "..../..x.", "", 1, 3},
		{2, 4, "ab\x1b|E|c", "ab../c...", "", 1, 1},
		{1, 4, "\x1b|(|0|q\x1b(|Bq", "\u2500q..", "", 0, 2},
		{1, 4, "\x1b]|0;ti|tle|\x07x", "x...", "", 0, 1},
		{1, 4, "\x1b]0;t|\x1b|\\x", "x...", "", 0, 1},
		{1, 4, "\x1bP1|;2|q~~|\x1b\\|x", "x...", "", 0, 1},
		{1, 4, "\x1b_ab|\x1b\\x", "x...", "", 0, 1},
		{1, 4, "\x1b[|?|7|l|abcdef", "abcf", "", 0, 3},
		{1, 4, "\x1b[1:|2mx", "x...", "", 0, 1},
		{1, 4, "\x1b[3|\x18C|x", "Cx..", "", 0, 2},
		{1, 4, "\x1b[3|\x1b[2|Cx", "..x.", "", 0, 3},
		{1, 4, "\x1b[2|\r|C|x", "..x.", "", 0, 3},
		{1, 4, "\x1b[2|\xff|C|x", "..x.", "", 0, 3},
		{1, 4, "\x1b[2|\xc3|C|x", "..x.", "", 0, 3},

		// What the terminal replies, in its order.
		{1, 4, "\x1b[5n", "....", "\x1b[0n", 0, 0},
		{1, 4, "\x1b[c\x1b[0c", "....", "\x1b[?62;22c\x1b[?62;22c", 0, 0},
		{1, 4, "\x1b[6|nab\x1b[6n|\x1b[5n", "ab..", "\x1b[1;1R\x1b[1;3R\x1b[0n", 0, 2},
		{1, 4, "\x1b[6n\x1bc", "....", "\x1b[1;1R", 0, 0},
	} {
		h := begun(t, x.rows, x.cols, strings.Split(x.chunks, "|")...)
		if got := drawn(h.Grid()); got != x.cells {
			t.Errorf("%q: %s, not %s", x.chunks, got, x.cells)
		}
		if got := h.Spot(); got.Row != x.row || got.Col != x.col || got.Cols != x.cols || len(got.IDs) != x.rows {
			t.Errorf("%q: %+v", x.chunks, got)
		}
		if got := string(h.Sent()); got != x.out {
			t.Errorf("%q: sent %q, not %q", x.chunks, got, x.out)
		}
	}
}

// TestEventsOutright: the events of each chunk, none of them twice.
func TestEventsOutright(t *testing.T) {
	h := begun(t, 2, 3)
	for _, x := range []struct{ chunk, want string }{
		{"", ""},
		{"ab", "print 1:0 #0 61 blank; print 1:1 #1 62 blank"},
		{"", ""},
		{"\xcc", ""},
		{"\x81", "join 1:1 #2 301 last"},
		{"\xcc\x82", "join 1:1 #3 302 last"},
		{"\r\n", "straight 1:0; straight 2:0 fresh"},
		{"\x1b[1;", ""},
		{"2", ""},
		{"Hxy", "other 1:1; print 1:1 #4 78; print 1:2 #5 79 blank"},
		{"z", "straight 2:0 fresh wrap; print 2:0 #6 7a blank"},
		{"\x1b[1m\x1b]2;t\x07\x0e\x0f\x1b[6n", ""},
		{"\xe4\xb8", ""},
		{"\x80", "print 2:1 #7 4e00 wide blank"},
		{"\xff", "straight 3:0 fresh wrap; print 3:0 #8 fffd blank"},
		{"\x1b[?1049h", "other 5:1"},
		{"\x1b[?1049l", "other 3:1; other 3:1"},
		{"\x1bc", "reset 6:0"},
	} {
		if got := say(h.Bytes([]byte(x.chunk))); got != x.want {
			t.Errorf("%q: %s, not %s", x.chunk, got, x.want)
		}
	}
	if h.Prints() != 9 {
		t.Error(h.Prints())
	}
}

// TestResizeOutright: its events alone, and the terminal then.
func TestResizeOutright(t *testing.T) {
	h := begun(t, 2, 4, "abcde")
	for _, x := range []struct {
		rows, cols    int
		events, cells string
		back          int
	}{
		{1, 4, "other 2:1", "e...", 1},
		{3, 2, "other 2:1", "e./../..", 1},
		{3, 2, "other 2:1", "e./../..", 1},
		{3, 1, "other 2:0", "e/./.", 1},
	} {
		e, err := h.Resize(x.rows, x.cols)
		if got := say(e); got != x.events || err != api.OK {
			t.Error(x, err, got)
		}
		if got := drawn(h.Grid()); got != x.cells || len(h.Back()) != x.back {
			t.Error(x, got, len(h.Back()))
		}
	}
	if e := h.Bytes(nil); len(e) != 0 {
		t.Error("told twice:", say(e))
	}
}

// sizes are states of both screens, and open ones.
var sizes = []string{
	"", "abcdefghijklmno", "a\r\nb\r\nc\r\nd\r\ne", "\u4e00\u4e00\u4e00", "\x1b[2;3r\x1b[?6h\x1b[2;2Hx", "abc\x1b[99;99H\x1b7",
	"ab\x1b[?1049hcd\r\nef", "ab\x1b7\x1b[?47h\x1b[2;2Hcd", "abcd\xe4\xb8", "abcd\x1b[?", "ab\x1b]0;t",
}

// TestResize: to smaller and greater sizes, on both screens, in between of what is open, and to sizes that may not be.
func TestResize(t *testing.T) {
	var all [][2]int
	for _, rows := range []int{0, 1, 2, 3, 7, 513} {
		for _, cols := range []int{0, 1, 2, 5, 30, 513} {
			all = append(all, [2]int{rows, cols})
		}
	}
	for _, n := range far {
		all = append(all, [2]int{n, 3}, [2]int{3, n}, [2]int{n, n})
	}
	for _, state := range sizes {
		for _, x := range all {
			d := made(t, 3, 5, 3)
			d.do(come(state), sized(x[0], x[1]))
			d.hold()
			d.do(come("\x80h;7lxyz\x1b[6n"), ask(), sized(4, 4), come("\x1b[?1049lq\x1b8r\x1b[6n"), ask())
			d.hold()
		}
	}
	d := made(t, 3, 5, 3)
	d.do(come("abcdefgh"), sized(512, 512), come("x"), sized(1, 1))
	d.hold()
}

// TestResizeRefused: ErrArg, no events, and nothing is changed, what is open neither.
func TestResizeRefused(t *testing.T) {
	h := begun(t, 2, 4, "abcde\xe4\xb8")
	h.Send([]byte("s"))
	before := look(h)
	for _, n := range append([]int{0, 513}, far...) {
		for _, x := range [][2]int{{n, 4}, {2, n}, {n, n}} {
			if e, err := h.Resize(x[0], x[1]); err != api.ErrArg || len(e) != 0 {
				t.Error(x, err, say(e))
			}
		}
	}
	if !same(look(h), before) || string(h.Sent()) != "s" {
		t.Error("changed")
	}
	if got := say(h.Bytes([]byte{0x80})); got != "print 2:1 #5 4e00 wide blank" {
		t.Error(got)
	}
}

// TestKeysOutright: by the modes at that time, that is when the key is pressed.
func TestKeysOutright(t *testing.T) {
	up, enter := api.Key{Kind: api.KeyUp}, api.Key{Kind: api.KeyEnter}
	h := begun(t, 2, 4)
	for _, x := range []struct {
		bytes string
		k     api.Key
		want  string
	}{
		{"", up, "\x1b[A"},
		{"\x1b[?1h", up, "\x1bOA"},
		{"", api.Key{Kind: api.KeyUp, Mods: 4}, "\x1b[1;5A"},
		{"", api.Key{Kind: api.KeyEnd}, "\x1bOF"},
		{"\x1b[?1l", up, "\x1b[A"},
		{"\x1b[?1", up, "\x1b[A"},
		{"h", up, "\x1bOA"},
		{"\x1bc", up, "\x1b[A"},
		{"", enter, "\r"},
		{"\x1b[20h", enter, "\r\n"},
		{"\x1b[20l", enter, "\r"},
		{"", api.Key{Kind: api.KeyRune, R: 'x'}, "x"},
		{"", api.Key{Kind: api.KeyRune, R: 0xe4, Mods: 2}, "\x1b\xc3\xa4"},
		{"", api.Key{Kind: api.KeyRune, R: 'c', Mods: 4}, "\x03"},
		{"", api.Key{Kind: api.KeyRune, R: ' ', Mods: 4}, "\x00"},
		{"", api.Key{Kind: api.KeyF, N: 5}, "\x1b[15~"},
		{"", api.Key{Kind: api.KeyDelete, Mods: 1}, "\x1b[3;2~"},
		{"", api.Key{Kind: api.KeyTab, Mods: 1}, "\x1b[Z"},
		{"", api.Key{Kind: api.KeyBack}, "\x7f"},
		{"", api.Key{Kind: api.KeyEscape}, "\x1b"},
	} {
		h.Bytes([]byte(x.bytes))
		if err := h.Key(x.k); err != api.OK {
			t.Error(x, err)
		}
		if got := string(h.Sent()); got != x.want {
			t.Errorf("%q, %+v: %q, not %q", x.bytes, x.k, got, x.want)
		}
	}
}

// TestModesOfThatTime: a mode that goes on behind a key or a paste changes nothing of what was sent.
func TestModesOfThatTime(t *testing.T) {
	h := begun(t, 2, 4)
	keyUp := func() { h.Key(api.Key{Kind: api.KeyUp}) }
	keyUp()
	h.Paste([]int32("p"))
	h.Bytes([]byte("\x1b[?1h\x1b[?2004h"))
	keyUp()
	h.Paste([]int32("q"))
	h.Bytes([]byte("\x1b[?1l\x1b[?2004l"))
	keyUp()
	if got := string(h.Sent()); got != "\x1b[Ap\x1bOA\x1b[200~q\x1b[201~\x1b[A" {
		t.Errorf("%q", got)
	}
}

// modes are texts that change the modes on which keys and pastes hang, and others.
var modes = []string{"", "\x1b[?1h", "\x1b[20h", "\x1b[?2004h", "\x1b[?1h\x1b[20h\x1b[?2004h", "\x1b[4h\x1b[?6h\x1b[?7l\x1b[?25l\x1b[?1049h"}

// TestEachKey: all kinds, with runes, numbers and Mods about the bounds; those that may not be send nothing.
func TestEachKey(t *testing.T) {
	runes := []int32{math.MinInt32, -1, 0, 9, 32, '?', '@', 'a', 'z', 0x7f, 0x9f, 0xa0, 0xe4, 0xd7ff, 0xd800, 0xdfff, 0xe000, 0xfffd, 0x10ffff, 0x110000, math.MaxInt32}
	for _, text := range modes {
		h := begun(t, 2, 4, text)
		before, m := look(h), h.Modes()
		for kind := range 256 {
			for _, mods := range []uint8{0, 1, 2, 3, 4, 5, 6, 7, 8, 255} {
				for _, n := range []int{0, 1, 4, 5, 12, 13, -1, math.MinInt, math.MaxInt} {
					for _, r := range runes {
						k := api.Key{Kind: uint8(kind), R: r, N: n, Mods: mods}
						want, may := keys.Encode(m, k)
						if err := h.Key(k); err != may || err != api.OK && err != api.ErrArg {
							t.Fatalf("%q, %+v: %d, not %d", text, k, err, may)
						}
						if got := h.Sent(); !slices.Equal(got, want) {
							t.Fatalf("%q, %+v: %q, not %q", text, k, got, want)
						}
					}
				}
			}
		}
		if !same(look(h), before) {
			t.Errorf("%q: the terminal is another one", text)
		}
	}
}

// TestKeyRefused: a key that may not be is ErrArg; what was sent ahead of it stays.
func TestKeyRefused(t *testing.T) {
	h := begun(t, 2, 4)
	h.Send([]byte("a"))
	for _, k := range []api.Key{
		{}, {Kind: 17}, {Kind: 255}, {Kind: api.KeyRune, R: 0xd800}, {Kind: api.KeyRune, R: -1}, {Kind: api.KeyRune, R: 0x110000},
		{Kind: api.KeyF}, {Kind: api.KeyF, N: 13}, {Kind: api.KeyF, N: -1}, {Kind: api.KeyUp, Mods: 8}, {Kind: api.KeyUp, R: 'a'}, {Kind: api.KeyUp, N: 1},
	} {
		if err := h.Key(k); err != api.ErrArg {
			t.Errorf("%+v: %d", k, err)
		}
	}
	h.Send([]byte("b"))
	if got := string(h.Sent()); got != "ab" {
		t.Errorf("%q", got)
	}
}

func TestPasteOutright(t *testing.T) {
	for _, x := range []struct {
		text          []int32
		plain, braced string
	}{
		{nil, "", "\x1b[200~\x1b[201~"},
		{[]int32{}, "", "\x1b[200~\x1b[201~"},
		{[]int32("ls"), "ls", "\x1b[200~ls\x1b[201~"},
		{[]int32("a\r\nb\nc\rd\te"), "a\rb\rc\rd\te", "\x1b[200~a\rb\rc\rd\te\x1b[201~"},
		{[]int32{0xe4, 0x4e00}, "\u00e4\u4e00", "\x1b[200~\u00e4\u4e00\x1b[201~"},
		{[]int32("\x1b[201~x\x00\x7f\u0085"), "[201~x", "\x1b[200~[201~x\x1b[201~"},
		{[]int32{-1, 0xd800, 0x110000, math.MaxInt32}, "", "\x1b[200~\x1b[201~"},
	} {
		for text, want := range map[string]string{"": x.plain, "\x1b[?2004h": x.braced, "\x1b[?2004h\x1b[?2004l": x.plain} {
			h := begun(t, 2, 4, text)
			before := look(h)
			if err := h.Paste(x.text); err != api.OK {
				t.Error(x, err)
			}
			if got := string(h.Sent()); got != want {
				t.Errorf("%q, %x: %q, not %q", text, x.text, got, want)
			}
			if !same(look(h), before) {
				t.Errorf("%q: the terminal is another one", text)
			}
		}
	}
}

// TestSend: any bytes are sent as they are, and do nothing here.
func TestSend(t *testing.T) {
	var all []byte
	for i := range 256 {
		all = append(all, byte(i))
	}
	h := begun(t, 2, 4, "ab\xc3")
	before := look(h)
	for _, b := range [][]byte{nil, {}, {0}, {0xff}, []byte("\x1b[6n"), []byte("\xa4"), []byte("\x1b[?1h\x1bc"), all, slices.Repeat(all, 100)} {
		if err := h.Send(b); err != api.OK {
			t.Errorf("%q: %d", b, err)
		}
		if got := h.Sent(); !slices.Equal(got, b) {
			t.Errorf("%q: %q", b, got)
		}
	}
	if !same(look(h), before) {
		t.Error("the terminal is another one")
	}
	if got := say(h.Bytes([]byte("\xa4"))); got != "print 1:2 #2 e4 blank" {
		t.Error(got)
	}
}

// TestSentInOrder: replies, keys, pastes and what was sent, as they happened; then nothing, till more comes.
func TestSentInOrder(t *testing.T) {
	h := begun(t, 2, 9)
	h.Key(api.Key{Kind: api.KeyRune, R: '1'})
	h.Bytes([]byte("\x1b[5n"))
	h.Paste([]int32("2"))
	h.Send([]byte("3"))
	h.Bytes([]byte("x\x1b[6"))
	h.Key(api.Key{Kind: api.KeyRune, R: '4'})
	h.Resize(1, 9)
	h.Bytes([]byte("ny\x1b[c"))
	h.Send([]byte("5"))
	h.Key(api.Key{})
	h.Resize(0, 0)
	h.Paste([]int32("6"))
	h.Bytes([]byte("\x1b[6n\x1b[5n"))
	want := "1\x1b[0n23" + "4\x1b[1;2R\x1b[?62;22c5" + "6\x1b[1;3R\x1b[0n"
	if got := string(h.Sent()); got != want {
		t.Errorf("%q, not %q", got, want)
	}
	for range 3 {
		if got := h.Sent(); len(got) != 0 {
			t.Errorf("told twice: %q", got)
		}
		h.Bytes([]byte("a\x1b["))
	}
	h.Bytes([]byte("5n"))
	h.Send([]byte("7"))
	if got := string(h.Sent()); got != "\x1b[0n7" {
		t.Errorf("%q", got)
	}
}

// nobodies are a host's end that is not there, and a zero one.
func nobodies() []*host.Host { return []*host.Host{nil, {}} }

func TestNobody(t *testing.T) {
	for i, h := range nobodies() {
		for range 2 {
			if e := h.Bytes([]byte("abc\x1b[6n")); len(e) != 0 {
				t.Error(i, say(e))
			}
			for _, x := range [][2]int{{2, 4}, {0, 0}, {-1, 513}} {
				if e, err := h.Resize(x[0], x[1]); err != api.ErrNil || len(e) != 0 {
					t.Error(i, x, err, say(e))
				}
			}
			for _, k := range []api.Key{{Kind: api.KeyUp}, {}, {Kind: 99}} {
				if err := h.Key(k); err != api.ErrNil {
					t.Error(i, k, err)
				}
			}
			if a, b, c, d := h.Paste([]int32("a")), h.Paste(nil), h.Send([]byte("a")), h.Send(nil); a != api.ErrNil || b != api.ErrNil || c != api.ErrNil || d != api.ErrNil {
				t.Error(i, a, b, c, d)
			}
			if b := h.Sent(); len(b) != 0 {
				t.Errorf("%d: %q", i, b)
			}
			if got := look(h); !same(got, view{}) {
				t.Errorf("%d: %+v", i, got)
			}
		}
	}
}

// TestApart: two of them have nothing in common.
func TestApart(t *testing.T) {
	a, b := begun(t, 2, 4, "ab\xc3"), begun(t, 2, 4)
	a.Send([]byte("s"))
	a.Bytes([]byte("\x1b["))
	if got := say(b.Bytes([]byte("6n"))); got != "print 1:0 #0 36 blank; print 1:1 #1 6e blank" {
		t.Error(got)
	}
	if got := b.Sent(); len(got) != 0 {
		t.Errorf("%q", got)
	}
}

// spoil writes over all that a view has.
func spoil(v view) {
	for i := range v.grid.Cells {
		for j := range v.grid.Cells[i] {
			for k := range v.grid.Cells[i][j].Comb {
				v.grid.Cells[i][j].Comb[k] = 'X'
			}
			v.grid.Cells[i][j] = api.Cell{R: 'X', Wide: 7}
		}
		v.grid.Cells[i] = nil
		v.grid.IDs[i] = -1
		v.spot.IDs[i] = -2
	}
	for i := range v.back {
		for j := range v.back[i].Cells {
			v.back[i].Cells[j] = api.Cell{R: 'X'}
		}
		v.back[i] = api.Held{ID: -1}
	}
}

// TestMemory: what is told may be written over, and what came in, too.
func TestMemory(t *testing.T) {
	for _, at := range []int{0, 1, 2, 3} {
		d := made(t, 2, 4, 3)
		steps := []step{
			come("a\u0301b\r\n\u4e00\r\ncd\xe4"), pasted("p\u00e4"), sends("\x1b[1"), come("\xb8\x80\x1b[6n\x1b["), ask(),
			rune32('k', 0), sends("xyz"), come("?2004h"), pasted("q"), sized(3, 5), come("e\x1b[5n"), ask(), sends("w"), ask(),
		}
		for i, s := range steps {
			mine := s
			mine.b, mine.text = slices.Clone(s.b), slices.Clone(s.text)
			got, want := call(d.h, mine), d.p.do(s)
			if !slices.Equal(got.events, want.events) || got.err != want.err || got.sent != want.sent {
				t.Fatalf("%d, %v: %+v, not %+v", i, s, got, want)
			}
			if !slices.Equal(mine.b, s.b) || !slices.Equal(mine.text, s.text) {
				t.Fatalf("%v: what was handed in is changed", s)
			}
			for j := range mine.b {
				mine.b[j] = 'Z'
			}
			for j := range mine.text {
				mine.text[j] = 'Z'
			}
			for j := range got.events {
				got.events[j] = api.Event{Kind: 99}
			}
			if i%4 == at {
				spoil(look(d.h))
			}
			d.hold()
		}
	}
}

// TestSentIsItsOwn: what Sent told is neither written over by what comes later, nor does it change that.
func TestSentIsItsOwn(t *testing.T) {
	h := begun(t, 2, 4)
	h.Send([]byte("abcdefgh"))
	first := h.Sent()
	h.Send([]byte("12"))
	if string(first) != "abcdefgh" {
		t.Errorf("%q", first)
	}
	h.Send(first[:2])
	for i := range first {
		first[i] = 'Z'
	}
	first = append(first[:0], "ZZZ"...)
	h.Key(api.Key{Kind: api.KeyRune, R: '3'})
	if got := string(h.Sent()); got != "12ab3" {
		t.Errorf("%q, %q", got, first)
	}
}

// TestToldStays: a view, events and bytes stay as they were told.
func TestToldStays(t *testing.T) {
	h := begun(t, 2, 4)
	events := h.Bytes([]byte("ab\r\ncd\r\ne\x1b[6n"))
	v, sent, was := look(h), h.Sent(), look(h)
	told := say(events)
	h.Bytes([]byte("\x1b[Hxyz\u4e00\r\n\r\n\x1b[5n"))
	h.Resize(1, 2)
	h.Bytes([]byte("\x1bcq"))
	if !same(v, was) || say(events) != told || string(sent) != "\x1b[2;2R" {
		t.Error("changed")
	}
}
