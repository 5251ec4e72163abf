package chartab_test

import (
	"math"
	"testing"

	"tactile/api"
	"tactile/chartab"
)

// within tells whether r lies in one of the ranges, each a first and a last.
func within(r int32, ranges [][2]int32) bool {
	for _, x := range ranges {
		if r >= x[0] && r <= x[1] {
			return true
		}
	}
	return false
}

// The document's words, in its own order: written apart from the program's
// tables, so that a slip in either shows.
var (
	controls = [][2]int32{{0, 31}, {127, 159}}
	marks    = [][2]int32{
		{0x300, 0x36f}, {0x483, 0x489}, {0x591, 0x5bd}, {0x610, 0x61a}, {0x64b, 0x65f},
		{0xe31, 0xe31}, {0xe34, 0xe3a}, {0xe47, 0xe4e}, {0x1ab0, 0x1aff}, {0x1dc0, 0x1dff},
		{0x200b, 0x200f}, {0x20d0, 0x20ff}, {0xfe00, 0xfe0f}, {0xfe20, 0xfe2f}, {0xe0100, 0xe01ef},
	}
	wide = [][2]int32{
		{0x1100, 0x115f}, {0x2e80, 0x303e}, {0x3041, 0xa4cf}, {0xac00, 0xd7a3}, {0xf900, 0xfaff},
		{0xfe30, 0xfe6f}, {0xff00, 0xff60}, {0xffe0, 0xffe6}, {0x1f300, 0x1f64f}, {0x1f900, 0x1f9ff},
		{0x20000, 0x2fffd}, {0x30000, 0x3fffd},
	}
	blanks = [][2]int32{{32, 32}, {0xa0, 0xa0}, {0x2000, 0x200a}, {0x202f, 0x202f}, {0x205f, 0x205f}, {0x3000, 0x3000}}
)

func wantMay(r int32) bool {
	return r >= 0 && r <= 0x10ffff && !(r >= 0xd800 && r <= 0xdfff)
}

func wantWidth(r int32) int {
	switch {
	case !wantMay(r), within(r, controls), within(r, marks):
		return 0
	case within(r, wide):
		return 2
	}
	return 1
}

func wantClass(r int32) uint8 {
	switch {
	case wantWidth(r) == 0:
		return 0
	case within(r, blanks):
		return 1
	case r >= '0' && r <= '9':
		return 2
	case r >= 'a' && r <= 'z', r >= 0xdf && r <= 0xff && r != 0xf7:
		return 3
	case r >= 'A' && r <= 'Z', r >= 0xc0 && r <= 0xde && r != 0xd7:
		return 4
	case r < 0x80:
		return 5
	}
	return 6
}

// each hands on every rune that may be, those around them, and the ends of
// the numbers.
func each(do func(r int32)) {
	for r := int32(-0x1000); r <= api.MaxRune+0x1000; r++ {
		do(r)
	}
	for i := int32(0); i < 0x1000; i++ {
		do(math.MinInt32 + i)
		do(math.MaxInt32 - i)
	}
	for i := range 32 {
		do(1 << i)
		do(-1 << i)
	}
}

func TestMayWidthClassOfAllRunes(t *testing.T) {
	wrong := 0
	each(func(r int32) {
		m, w, c := chartab.May(r), chartab.Width(r), chartab.Class(r)
		if m == wantMay(r) && w == wantWidth(r) && c == wantClass(r) {
			return
		}
		if wrong++; wrong <= 10 {
			t.Errorf("%#x: May %v, Width %d, Class %d; want %v, %d, %d", r, m, w, c, wantMay(r), wantWidth(r), wantClass(r))
		}
	})
}

func TestMayAtItsEdges(t *testing.T) {
	for _, x := range []struct {
		r    int32
		want bool
	}{
		{math.MinInt32, false}, {-1, false}, {0, true}, {0xd7ff, true}, {0xd800, false}, {0xdfff, false},
		{0xe000, true}, {api.Bad, true}, {0xffff, true}, {0x10ffff, true}, {0x110000, false}, {math.MaxInt32, false},
	} {
		if got := chartab.May(x.r); got != x.want {
			t.Errorf("May(%#x) = %v", x.r, got)
		}
	}
}

func TestWidthAndClassOfExamples(t *testing.T) {
	for _, x := range []struct {
		r     int32
		width int
		class uint8
	}{
		{97, 1, api.ClassSmall}, {0x4e00, 2, api.ClassOther}, {0x301, 0, api.ClassNone}, {0xd800, 0, api.ClassNone},
		{0x3000, 2, api.ClassBlank}, {0xa0, 1, api.ClassBlank}, {0x2000, 1, api.ClassBlank}, {0x200a, 1, api.ClassBlank},
		{0x200b, 0, api.ClassNone}, {0x1fff, 1, api.ClassOther}, {31, 0, api.ClassNone}, {32, 1, api.ClassBlank},
		{126, 1, api.ClassSign}, {127, 0, api.ClassNone}, {159, 0, api.ClassNone}, {160, 1, api.ClassBlank},
		{'/', 1, api.ClassSign}, {'0', 1, api.ClassDigit}, {'9', 1, api.ClassDigit}, {':', 1, api.ClassSign},
		{'@', 1, api.ClassSign}, {'A', 1, api.ClassCapital}, {'Z', 1, api.ClassCapital}, {'[', 1, api.ClassSign},
		{'`', 1, api.ClassSign}, {'a', 1, api.ClassSmall}, {'z', 1, api.ClassSmall}, {'{', 1, api.ClassSign},
		{0xbf, 1, api.ClassOther}, {0xc0, 1, api.ClassCapital}, {0xd7, 1, api.ClassOther}, {0xde, 1, api.ClassCapital},
		{0xdf, 1, api.ClassSmall}, {0xf7, 1, api.ClassOther}, {0xff, 1, api.ClassSmall}, {0x100, 1, api.ClassOther},
		{0x303f, 1, api.ClassOther}, {0x3040, 1, api.ClassOther}, {0x3041, 2, api.ClassOther}, {0xfe2f, 0, api.ClassNone},
		{0xfe30, 2, api.ClassOther}, {0x2fffe, 1, api.ClassOther}, {0x30000, 2, api.ClassOther}, {0x3fffe, 1, api.ClassOther},
		{0xe01ef, 0, api.ClassNone}, {0xe01f0, 1, api.ClassOther}, {0x10ffff, 1, api.ClassOther}, {0x110000, 0, api.ClassNone},
		{-1, 0, api.ClassNone}, {-97, 0, api.ClassNone},
	} {
		if w, c := chartab.Width(x.r), chartab.Class(x.r); w != x.width || c != x.class {
			t.Errorf("%#x: Width %d, Class %d; want %d, %d", x.r, w, c, x.width, x.class)
		}
	}
}

func TestLowerAndUpperOfAllRunes(t *testing.T) {
	each(func(r int32) {
		lower, upper := r, r
		if wantClass(r) == 4 {
			lower = r + 32
		}
		if wantClass(r) == 3 && wantClass(r-32) == 4 {
			upper = r - 32
		}
		if l, u := chartab.Lower(r), chartab.Upper(r); l != lower || u != upper {
			t.Errorf("%#x: Lower %#x, Upper %#x; want %#x, %#x", r, l, u, lower, upper)
		}
	})
}

func TestLowerAndUpperOfExamples(t *testing.T) {
	for _, x := range []struct{ r, lower, upper int32 }{
		{'A', 'a', 'A'}, {'Z', 'z', 'Z'}, {'a', 'a', 'A'}, {'z', 'z', 'Z'}, {'@', '@', '@'}, {'[', '[', '['},
		{'`', '`', '`'}, {'{', '{', '{'}, {'7', '7', '7'}, {0xc0, 0xe0, 0xc0}, {0xe9, 0xe9, 0xc9}, {0xde, 0xfe, 0xde},
		{0xd7, 0xd7, 0xd7}, {0xf7, 0xf7, 0xf7}, {0xdf, 0xdf, 0xdf}, {0xff, 0xff, 0xff}, {0x410, 0x410, 0x410},
		{0x430, 0x430, 0x430}, {-1, -1, -1}, {math.MinInt32, math.MinInt32, math.MinInt32}, {math.MaxInt32, math.MaxInt32, math.MaxInt32},
	} {
		if l, u := chartab.Lower(x.r), chartab.Upper(x.r); l != x.lower || u != x.upper {
			t.Errorf("%#x: Lower %#x, Upper %#x", x.r, l, u)
		}
	}
}

func TestACapitalIsTheCapitalOfItsSmallOne(t *testing.T) {
	each(func(r int32) {
		if chartab.Class(r) == api.ClassCapital && chartab.Upper(chartab.Lower(r)) != r {
			t.Errorf("%#x: its small one's capital is %#x", r, chartab.Upper(chartab.Lower(r)))
		}
	})
}

// wantGraphics are 96 to 126, by the document's list.
var wantGraphics = []int32{
	0x25c6, 0x2592, 0x2409, 0x240c, 0x240d, 0x240a, 0xb0, 0xb1, 0x2424, 0x240b, 0x2518, 0x2510, 0x250c, 0x2514, 0x253c, 0x23ba,
	0x23bb, 0x2500, 0x23bc, 0x23bd, 0x251c, 0x2524, 0x2534, 0x252c, 0x2502, 0x2264, 0x2265, 0x3c0, 0x2260, 0xa3, 0xb7,
}

func wantCharset(set uint8, r int32) int32 {
	switch {
	case set == 1 && r == 35:
		return 0xa3
	case set == 2 && r == 95:
		return 32
	case set == 2 && r >= 96 && r <= 126:
		return wantGraphics[r-96]
	}
	return r
}

func TestCharsetOfAllRunes(t *testing.T) {
	for _, set := range []uint8{api.CharASCII, api.CharUK, api.CharGraphics, 3, 255} {
		each(func(r int32) {
			if got, want := chartab.Charset(set, r), wantCharset(set, r); got != want {
				t.Errorf("Charset(%d, %#x) = %#x, want %#x", set, r, got, want)
			}
		})
	}
}

func TestCharsetOfAllNumbers(t *testing.T) {
	for set := range 256 {
		for r := int32(-1); r < 256; r++ {
			if got, want := chartab.Charset(uint8(set), r), wantCharset(uint8(set), r); got != want {
				t.Errorf("Charset(%d, %#x) = %#x, want %#x", set, r, got, want)
			}
		}
	}
}

func TestCharsetOfExamples(t *testing.T) {
	for _, x := range []struct {
		set     uint8
		r, want int32
	}{
		{0, '#', '#'}, {0, 'q', 'q'}, {1, '#', 0xa3}, {1, 'q', 'q'}, {1, '$', '$'}, {2, 113, 0x2500}, {2, '^', '^'},
		{2, '_', ' '}, {2, '`', 0x25c6}, {2, '~', 0xb7}, {2, 127, 127}, {2, '#', '#'}, {2, -1, -1}, {3, '#', '#'}, {3, 'q', 'q'},
	} {
		if got := chartab.Charset(x.set, x.r); got != x.want {
			t.Errorf("Charset(%d, %#x) = %#x, want %#x", x.set, x.r, got, x.want)
		}
	}
}

type named struct {
	text  string
	level int
}

var wantNames = map[int32]named{
	'.': {"dot", 1}, '?': {"question", 1}, '!': {"bang", 1}, '@': {"at", 1}, '$': {"dollar", 1}, '%': {"percent", 1},
	'&': {"and", 1}, '/': {"slash", 1}, '#': {"number", 1}, '*': {"star", 1}, '+': {"plus", 1}, '=': {"equals", 1},
	',': {"comma", 2}, ';': {"semicolon", 2}, ':': {"colon", 2}, '-': {"dash", 2}, '_': {"line", 2}, '<': {"less", 2},
	'>': {"greater", 2}, '\\': {"backslash", 2}, '|': {"bar", 2}, '~': {"tilde", 2}, '^': {"caret", 2},
	'(': {"left paren", 3}, ')': {"right paren", 3}, '[': {"left bracket", 3}, ']': {"right bracket", 3},
	'{': {"left brace", 3}, '}': {"right brace", 3}, '"': {"quote", 3}, '\'': {"tick", 3}, 96: {"grave", 3},
}

func TestNameOfAllRunes(t *testing.T) {
	each(func(r int32) {
		want := wantNames[r]
		if text, level := chartab.Name(r); text != want.text || level != want.level {
			t.Errorf("Name(%#x) = %q, %d; want %q, %d", r, text, level, want.text, want.level)
		}
	})
}

func TestEverySignHasAName(t *testing.T) {
	for r := int32(0); r < 0x80; r++ {
		if text, level := chartab.Name(r); (text != "") != (chartab.Class(r) == api.ClassSign) || (text != "") != (level > 0) {
			t.Errorf("Name(%#x) = %q, %d", r, text, level)
		}
	}
}
