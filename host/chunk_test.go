package host_test

import (
	"fmt"
	"math/rand"
	"slices"
	"testing"

	"tactile/api"
	"tactile/host"
)

// texts are what a host may say: texts, controls, sequences of each kind, and bytes that are no UTF-8.
var texts = []string{
	"plain text\r\nof two\tlines",
	"\u00e4\u4e00\U0001f600e\u0301\ufffd\U0010ffff\u0300",
	"\a\b\t\n\v\f\r\x0e\x0f\x00\x7f",
	"\u0084\u0085\u0088\u008d\u009b2;2Hx\u009d0;t\u009c\u0090q\u009cy",
	"ab\x1b7\x1b[2;3Hcd\x1b8ef\x1bDg\x1bEh\x1bMi\x1bcj",
	"\x1b(0lqk\x1b(B\x1b)A\x0e#\x0f#",
	"\x1b[1;31;48;5;200mx\x1b[38;2;1;2;3my\x1b[my",
	"\x1b[2J\x1b[K\x1b[3X\x1b[2@\x1b[P\x1b[L\x1b[M\x1b[S\x1b[T\x1b[2;3r\x1b[?6h\x1b[H",
	"\x1b[6n\x1b[5n\x1b[c\x1b[0c\x1b[1c\x1b[?6n\x1b[6n",
	"a\x1b[?1049hb\x1b[6n\x1b[?1049lc\x1b[?47h\x1b[?47l",
	"\x1b[?1;7;25;2004h\x1b[?7l\x1b[4h\x1b[20h\x1b[?25l",
	"\x1b]0;title\x07x\x1b]2;\u00e4\x1b\\y\x1bP1;2|abc\x1b\\z\x1b_apc\x1b\\\x1b^pm\x1b\\\x1bXsos\x1b\\",
	"\x1b[1:2mx\x1b[<5hy\x1b[ 5qz\x1b[5\x18w\x1b[5\x1av\x1b[\x1b[2Cu",
	"\x80\xbf\xc0\xc1\xf5\xff\xc3a\xe4\xb8b\xf0\x9f\x98c\xed\xa0\x80\xf4\x90\x80\x80\xe0\x80",
	"\x1b\xc3\xa4[\xff2\xe4C\xb8x\x1b]\xf0\x9f\x98\x07y\x1b(\xff0q",
	"abcd\u0301\u4e00\u0302\xcc",
	"end in what is open \x1b[1;",
	"end \x1b]0;open",
	"end \xf0\x9f\x98",
}

// betweens are steps that may stand between two chunks, also where a rune or a sequence is open.
func betweens() [][]step {
	return [][]step{
		nil,
		{come("")},
		{ask()},
		{rune32('k', 0)},
		{typed(api.Key{Kind: api.KeyUp}), typed(api.Key{Kind: api.KeyEnter})},
		{typed(api.Key{})},
		{pasted("p\u00e4\n")},
		{sends("\x1b[6n\x80s")},
		{sized(3, 7)},
		{sized(2, 3), sized(5, 9)},
		{sized(0, 7)},
		{rune32('c', api.Ctrl), come(""), pasted("q"), sized(1, 1), sends("\xa4"), ask()},
	}
}

// TestCutOnce: each text, cut at every place, with something between.
func TestCutOnce(t *testing.T) {
	for _, text := range texts {
		t.Run("", func(t *testing.T) {
			t.Parallel()
			for at := range len(text) + 1 {
				for _, steps := range betweens() {
					d := made(t, 4, 8, 3)
					d.do(come(text[:at]))
					d.do(steps...)
					d.hold()
					d.do(come(text[at:]))
					d.hold()
					d.do(ask(), ask(), come("\x80x\x1b\\y\x1b[6n"), ask())
					d.hold()
				}
			}
		})
	}
}

// heard is all that chunks have done, and what it came to.
type heard struct {
	events []api.Event
	sent   string
	view   view
}

// hear lets a text come in pieces that end at the cuts.
func hear(text string, cuts ...int) (w heard) {
	h, _ := host.New(4, 8, 3)
	from := 0
	for _, to := range append(slices.Clone(cuts), len(text)) {
		w.events = append(w.events, h.Bytes([]byte(text[from:to]))...)
		from = to
	}
	w.sent, w.view = string(h.Sent()), look(h)
	return w
}

func (w heard) is(x heard) bool {
	return slices.Equal(w.events, x.events) && w.sent == x.sent && same(w.view, x.view)
}

// TestCutTwiceAndWholly: in one chunk, in three, and byte by byte it is the same.
func TestCutTwiceAndWholly(t *testing.T) {
	for _, text := range texts {
		t.Run("", func(t *testing.T) {
			t.Parallel()
			whole := hear(text)
			var each []int
			for i := range len(text) {
				each = append(each, i)
				for j := range i {
					if !hear(text, j, i).is(whole) {
						t.Fatalf("%q, cut at %d and %d", text, j, i)
					}
				}
			}
			if !hear(text, each...).is(whole) {
				t.Fatalf("%q, byte by byte", text)
			}
		})
	}
}

// What sequences and runes that are not told whole are drawn from.
const (
	finals = "ABCDEFGHJKLMPSTXZ@dmnr"
	pieces = "\x1b[]()?;05789nmcHh\r\n\t\b\x0e\x18\x9b\xc2\xe4\xb8"
)

// drawnBytes draws what a host may say.
func drawnBytes(rnd *rand.Rand, n int) []byte {
	var b []byte
	for len(b) < n {
		switch rnd.Intn(6) {
		case 0:
			b = append(b, texts[rnd.Intn(len(texts))]...)
		case 1:
			b = append(b, byte(rnd.Intn(256)))
		case 2:
			b = append(b, string([]rune("ab \u00e4\u4e00\u0301\U0001f600\u009b")[rnd.Intn(8)])...)
		case 3:
			b = append(b, fmt.Sprintf("\x1b[%d;%d%c", rnd.Intn(6), rnd.Intn(9), finals[rnd.Intn(len(finals))])...)
		case 4:
			b = append(b, fmt.Sprintf("\x1b[?%d%c", []int{1, 6, 7, 25, 47, 1048, 1049, 2004}[rnd.Intn(8)], "hl"[rnd.Intn(2)])...)
		case 5:
			b = append(b, pieces[rnd.Intn(len(pieces))])
		}
	}
	return b[:n]
}

// drawnStep draws a step that is none of bytes.
func drawnStep(rnd *rand.Rand) step {
	switch rnd.Intn(6) {
	case 0:
		return sized(rnd.Intn(7), rnd.Intn(12))
	case 1:
		return typed(api.Key{Kind: uint8(rnd.Intn(18)), Mods: uint8(rnd.Intn(9))})
	case 2:
		return rune32(int32(rnd.Intn(300)), uint8(rnd.Intn(8)))
	case 3:
		return pasted("p\r\n\u00e4"[:rnd.Intn(6)])
	case 4:
		return sends(string(drawnBytes(rnd, rnd.Intn(5))))
	}
	return ask()
}

// TestLong: long rows of steps against the chapter's words.
func TestLong(t *testing.T) {
	for seed := range 300 {
		t.Run("", func(t *testing.T) {
			t.Parallel()
			rnd := rand.New(rand.NewSource(int64(seed)))
			d := made(t, 1+rnd.Intn(5), 1+rnd.Intn(10), rnd.Intn(5))
			for range 60 {
				if rnd.Intn(2) == 0 {
					d.do(step{kind: bytes, b: drawnBytes(rnd, rnd.Intn(20))})
				} else {
					d.do(drawnStep(rnd))
				}
				d.hold()
			}
		})
	}
}

// An entry is bytes, and the steps behind them.
type entry struct {
	b     []byte
	steps []step
}

// play lets entries come: the bytes of each in pieces no longer than cut tells, then its steps. What it tells is joined, so that the pieces do not show.
func play(all []entry, cut func() int) (w heard, errs []api.Errno) {
	h, _ := host.New(4, 8, 5)
	for _, e := range all {
		for rest := e.b; len(rest) > 0; {
			n := min(cut(), len(rest))
			w.events = append(w.events, h.Bytes(rest[:n])...)
			rest = rest[n:]
		}
		for _, s := range e.steps {
			got := call(h, s)
			w.events = append(w.events, got.events...)
			w.sent += got.sent
			errs = append(errs, got.err)
		}
	}
	w.sent += string(h.Sent())
	w.view = look(h)
	return w, errs
}

// TestChunks: the same bytes in one chunk, byte by byte, and in drawn ones, without and with steps between.
func TestChunks(t *testing.T) {
	for seed := range 60 {
		t.Run("", func(t *testing.T) {
			t.Parallel()
			rnd := rand.New(rand.NewSource(int64(seed)))
			var all []entry
			for range 1 + rnd.Intn(6) {
				e := entry{b: drawnBytes(rnd, rnd.Intn(1500))}
				for range rnd.Intn(4) * (seed % 3) {
					e.steps = append(e.steps, drawnStep(rnd))
				}
				all = append(all, e)
			}
			whole, errs := play(all, func() int { return 1 << 30 })
			for _, most := range []int{1, 2, 3, 7, 64, 600} {
				got, gotErrs := play(all, func() int { return 1 + rnd.Intn(most) })
				if !got.is(whole) || !slices.Equal(gotErrs, errs) {
					t.Fatalf("seed %d, pieces of at most %d", seed, most)
				}
			}
		})
	}
}

// TestKeysLeaveTheTerminal: bytes with keys, pastes and Send between are, but for what is sent, as without.
func TestKeysLeaveTheTerminal(t *testing.T) {
	for seed := range 60 {
		rnd := rand.New(rand.NewSource(int64(seed)))
		with, without := begun(t, 4, 8), begun(t, 4, 8)
		for range 40 {
			b := drawnBytes(rnd, rnd.Intn(30))
			if got, want := with.Bytes(b), without.Bytes(b); !slices.Equal(got, want) {
				t.Fatalf("seed %d, %q: %s, not %s", seed, b, say(got), say(want))
			}
			for range rnd.Intn(4) {
				s := drawnStep(rnd)
				for s.kind == size {
					s = drawnStep(rnd)
				}
				call(with, s)
			}
			if !same(look(with), look(without)) {
				t.Fatalf("seed %d, %q: the terminal is another one", seed, b)
			}
		}
	}
}
