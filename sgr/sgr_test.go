package sgr_test

import (
	"math"
	"slices"
	"strconv"
	"strings"
	"testing"

	"tactile/api"
	"tactile/sgr"
)

const rgb = 1 << 24

// everything has all flags, and two colours.
var everything = api.Attr{Fg: 200, Bg: rgb + 66051, Flags: 255}

// colours are those about the document's edges, of each way to tell them.
var colours = []uint32{
	0, 1, 2, 7, 8, 9, 10, 15, 16, 17, 18, 255, 256,
	rgb, rgb + 1, rgb + 255, rgb + 256, rgb + 65535, rgb + 65536, rgb + 66051, 2*rgb - 1,
}

// wrongColours are those that may not be.
var wrongColours = []uint32{
	257, 258, 65535, 65536, 66051, rgb - 1, 2 * rgb, 2*rgb + 1, 3 * rgb, 3*rgb + 66051, 1 << 31, 1<<31 + 1, math.MaxUint32 - 1, math.MaxUint32,
}

// attrs are some that may be: each flag alone, none, all; each two colours.
func attrs() (all []api.Attr) {
	for _, fg := range colours {
		for _, bg := range colours {
			for _, flags := range []uint16{0, 1, 2, 4, 8, 16, 32, 64, 128, 3, 0x55, 255} {
				all = append(all, api.Attr{Fg: fg, Bg: bg, Flags: flags})
			}
		}
	}
	return all
}

// few are attributes that numbers are applied to.
var few = []api.Attr{
	{}, everything,
	{Fg: 1}, {Bg: 1}, {Fg: 256, Bg: 17}, {Fg: 2*rgb - 1, Bg: rgb},
	{Flags: api.Bold}, {Flags: api.Faint}, {Flags: api.Under | api.Inverse},
}

// hold holds what Apply tells against a wanted attribute.
func hold(t *testing.T, a api.Attr, l []int, want api.Attr) {
	t.Helper()
	if got := sgr.Apply(a, l); got != want {
		t.Fatalf("%v on %v: %v, not %v", l, a, got, want)
	}
}

// read is the numbers of a text, parted by ';'.
func read(s string) (l []int) {
	if s == "" {
		return nil
	}
	for _, digits := range strings.Split(s, ";") {
		n, err := strconv.Atoi(digits)
		if err != nil {
			panic(err)
		}
		l = append(l, n)
	}
	return l
}

// written is numbers as such a text.
func written(l []int) string {
	var texts []string
	for _, n := range l {
		texts = append(texts, strconv.Itoa(n))
	}
	return strings.Join(texts, ";")
}

// TestExamples: the document's own, and the edges that its words name, applied
// to the zero attribute.
func TestExamples(t *testing.T) {
	for _, x := range []struct {
		numbers string
		want    api.Attr
	}{
		{"1;31", api.Attr{Flags: api.Bold, Fg: 2}},
		{"38;5;200;4", api.Attr{Fg: 201, Flags: api.Under}},
		{"38;2;1;2", api.Attr{}},
		{"7;48;2;1;2;3", api.Attr{Flags: api.Inverse, Bg: rgb + 66051}},

		{"", api.Attr{}},
		{"0", api.Attr{}},
		{"1;2;3;4;5;7;8;9", api.Attr{Flags: 255}},
		{"1;0;31", api.Attr{Fg: 2}},
		{"1;2;22", api.Attr{}},
		{"1;2;3;22", api.Attr{Flags: api.Italic}},
		{"6;10;11;20;21;26", api.Attr{}},
		{"30;40", api.Attr{Fg: 1, Bg: 1}},
		{"37;47", api.Attr{Fg: 8, Bg: 8}},
		{"90;100", api.Attr{Fg: 9, Bg: 9}},
		{"97;107", api.Attr{Fg: 16, Bg: 16}},
		{"31;42;39", api.Attr{Bg: 3}},
		{"31;42;49", api.Attr{Fg: 2}},
		{"38;5;0", api.Attr{Fg: 1}},
		{"48;5;255", api.Attr{Bg: 256}},
		{"38;2;0;0;0", api.Attr{Fg: rgb}},
		{"48;2;255;255;255", api.Attr{Bg: 2*rgb - 1}},
		{"38;5;256;1", api.Attr{Flags: api.Bold}},
		{"31;38;5;256", api.Attr{Fg: 2}},
		{"38;2;256;1;4;9", api.Attr{Flags: api.Strike}},
		{"38;2;1;256;4;9", api.Attr{Flags: api.Strike}},
		{"38;2;1;4;256;9", api.Attr{Flags: api.Strike}},
		{"38;5;-1;9", api.Attr{Flags: api.Strike}},
		{"38", api.Attr{}},
		{"4;38;5", api.Attr{Flags: api.Under}},
		{"4;48;2;1;3", api.Attr{Flags: api.Under}},
		{"4;38;1;3;9", api.Attr{Flags: api.Under}},
		{"4;38;0;3", api.Attr{Flags: api.Under}},
		{"38;38;5;1", api.Attr{}},
		{"38;5;38;48;5;48", api.Attr{Fg: 39, Bg: 49}},
		{"-1;1;-31", api.Attr{Flags: api.Bold}},
	} {
		hold(t, api.Attr{}, read(x.numbers), x.want)
	}
}

// TestEveryNumber applies each number, alone, and with one ahead of it and one
// behind it.
func TestEveryNumber(t *testing.T) {
	numbers := []int{math.MinInt, math.MinInt + 1, -1 << 32, 1 << 32, 1<<32 + 1, 1<<32 + 31, math.MaxInt - 1, math.MaxInt}
	for n := -300; n <= 66000; n++ {
		numbers = append(numbers, n)
	}
	for _, n := range numbers {
		for _, a := range few {
			hold(t, a, []int{n}, says(a, []int{n}))
			hold(t, a, []int{n, 9}, says(a, []int{n, 9}))
			hold(t, a, []int{35, n}, says(a, []int{35, n}))
		}
	}
}

// TestEveryNumberOnEverything: what a number does not name, it leaves as it
// is, and what it does nothing to, too.
func TestEveryNumberOnEverything(t *testing.T) {
	for n := -10; n < 300; n++ {
		for _, a := range attrs() {
			hold(t, a, []int{n}, says(a, []int{n}))
		}
	}
}

// TestOdd: an attribute that may not be is changed likewise, but 0 and none
// make it the zero one.
func TestOdd(t *testing.T) {
	for _, a := range []api.Attr{{Flags: 0xff00}, {Flags: 0xffff, Fg: 257, Bg: math.MaxUint32}, {Fg: rgb - 1, Bg: 2 * rgb}} {
		for n := -1; n < 120; n++ {
			hold(t, a, []int{n}, says(a, []int{n}))
			hold(t, a, []int{38, 5, n, 48, 2, n, n, 255}, says(a, []int{38, 5, n, 48, 2, n, n, 255}))
		}
		hold(t, a, nil, api.Attr{})
	}
}

// TestNone: no numbers at all are as 0 alone.
func TestNone(t *testing.T) {
	for _, a := range attrs() {
		hold(t, a, nil, api.Attr{})
		hold(t, a, []int{}, api.Attr{})
		hold(t, a, []int{0}, api.Attr{})
	}
}

// TestColourByNumber: of each number that follows, with what stands about it.
func TestColourByNumber(t *testing.T) {
	for n := -3; n < 300; n++ {
		for _, a := range few {
			for _, first := range []int{38, 48} {
				want := a
				if c := uint32(n + 1); n >= 0 && n <= 255 && first == 38 {
					want.Fg = c
				} else if n >= 0 && n <= 255 {
					want.Bg = c
				}
				hold(t, a, []int{first, 5, n}, want)
				want.Flags |= api.Strike
				hold(t, a, []int{9, first, 5, n}, want)
				hold(t, a, []int{first, 5, n, 9}, want)
			}
		}
	}
}

// parts are those of a colour that follows, and what is none.
var parts = []int{math.MinInt, -1, 0, 1, 2, 5, 38, 127, 128, 254, 255, 256, 257, 511, 65535, 1 << 32, math.MaxInt}

// TestColourByParts: of each three of some numbers, with what stands about
// them.
func TestColourByParts(t *testing.T) {
	for _, red := range parts {
		for _, green := range parts {
			for _, blue := range parts {
				for _, first := range []int{38, 48} {
					for _, a := range few {
						l := []int{first, 2, red, green, blue}
						hold(t, a, l, says(a, l))
						l = append([]int{1}, append(l, 4)...)
						hold(t, a, l, says(a, l))
					}
				}
			}
		}
	}
}

// TestEveryPart: each byte in each of the three places.
func TestEveryPart(t *testing.T) {
	for n := range uint32(256) {
		i := int(n)
		hold(t, api.Attr{}, []int{38, 2, i, 3, 4}, api.Attr{Fg: rgb + n*65536 + 3*256 + 4})
		hold(t, api.Attr{}, []int{38, 2, 3, i, 4}, api.Attr{Fg: rgb + 3*65536 + n*256 + 4})
		hold(t, api.Attr{}, []int{48, 2, 3, 4, i}, api.Attr{Bg: rgb + 3*65536 + 4*256 + n})
	}
}

// TestTooHighStays: of a number that is too high the colour stays, and what
// stands behind goes on.
func TestTooHighStays(t *testing.T) {
	for _, x := range []string{"5;256", "5;300", "5;65535", "2;256;0;0", "2;0;256;0", "2;0;0;256", "2;999;999;999", "2;1;2;65535"} {
		for _, a := range attrs() {
			want := a
			hold(t, a, read("38;"+x), want)
			hold(t, a, read("48;"+x), want)
			want.Flags |= api.Blink
			hold(t, a, read("38;"+x+";5"), want)
			want.Fg, want.Bg = 3, 4
			hold(t, a, read("38;"+x+";5;32;48;"+x+";43"), want)
		}
	}
}

// TestCutShort: where a colour cannot be told, all the rest does nothing, and
// what stands ahead has been done.
func TestCutShort(t *testing.T) {
	rests := []string{"", "5", "2", "2;1", "2;1;3", "2;300", "2;9;4"}
	for n := -5; n < 300; n++ {
		if n != 2 && n != 5 {
			text := strconv.Itoa(n)
			rests = append(rests, text, text+";1", text+";5;1", text+";2;1;2;3", text+";1;2;3;4;5;7;8;9")
		}
	}
	for _, rest := range rests {
		for _, first := range []string{"38", "48"} {
			for _, a := range few {
				hold(t, a, read(strings.TrimSuffix(first+";"+rest, ";")), a)
				want := a
				want.Flags, want.Fg = want.Flags|api.Strike, 5
				hold(t, a, read(strings.TrimSuffix("9;34;"+first+";"+rest, ";")), want)
			}
		}
	}
}

// everyRow hands each row of so many numbers, out of one of each kind or two.
func everyRow(length int, row []int, hand func([]int)) {
	if length == 0 {
		hand(row)
		return
	}
	for _, n := range []int{-1, 0, 1, 2, 5, 6, 22, 31, 38, 39, 47, 48, 49, 100, 255, 256} {
		everyRow(length-1, append(slices.Clone(row), n), hand)
	}
}

// TestEveryRow applies each row of up to four numbers.
func TestEveryRow(t *testing.T) {
	for length := range 5 {
		everyRow(length, nil, func(l []int) {
			hold(t, api.Attr{}, l, says(api.Attr{}, l))
			hold(t, everything, l, says(everything, l))
		})
	}
}

// TestLongRows applies rows of many numbers, with colours in them and cut
// short.
func TestLongRows(t *testing.T) {
	x := uint32(1)
	next := func(n int) int {
		x = x*1664525 + 1013904223
		return int(x>>16) % n
	}
	for range 20000 {
		var l []int
		for range next(40) {
			switch next(6) {
			case 0:
				l = append(l, 38+10*next(2), 5, next(260))
			case 1:
				l = append(l, 38+10*next(2), 2, next(260), next(260), next(260))
			default:
				l = append(l, next(110))
			}
		}
		hold(t, everything, l, says(everything, l))
	}
}

// TestInParts: numbers applied in two parts are applied as one, where no
// colour is cut in two, and neither part is none at all.
func TestInParts(t *testing.T) {
	l := read("1;38;5;200;4;48;2;1;2;3;22;0;7;31;38;5;256;48;2;1;300;3;107;9;39")
	steps := parted(l)
	at := 0
	for _, step := range steps[:len(steps)-1] {
		at += len(step)
		for _, a := range few {
			hold(t, sgr.Apply(a, l[:at]), l[at:], sgr.Apply(a, l))
		}
	}
}

// TestMay goes through all flags, the colours about the edges, and all of a
// great part.
func TestMay(t *testing.T) {
	for flags := range 1 << 16 {
		if got := sgr.May(api.Attr{Flags: uint16(flags)}); got != (flags < 256) {
			t.Fatal("flags", flags, got)
		}
	}
	check := func(c uint32) {
		want := c == 0 || c >= 1 && c <= 256 || c >= 1<<24 && c-1<<24 < 1<<24
		fg, bg := sgr.May(api.Attr{Fg: c}), sgr.May(api.Attr{Bg: c})
		if fg != want || bg != want {
			t.Fatal("colour", c, fg, bg)
		}
	}
	for c := range uint32(1 << 26) {
		check(c)
	}
	for c := uint64(1 << 26); c <= math.MaxUint32; c += 65521 {
		check(uint32(c))
	}
	for _, a := range attrs() {
		if !sgr.May(a) {
			t.Fatal(a)
		}
	}
	for _, c := range wrongColours {
		check(c)
		for _, other := range colours {
			if sgr.May(api.Attr{Fg: c, Bg: other}) || sgr.May(api.Attr{Fg: other, Bg: c}) {
				t.Fatal("colours", c, other)
			}
		}
	}
}

// TestApplyKeepsMay: what may be stays so, whatever is applied.
func TestApplyKeepsMay(t *testing.T) {
	for length := range 4 {
		everyRow(length, nil, func(l []int) {
			for _, a := range few {
				if got := sgr.Apply(a, l); !sgr.May(got) {
					t.Fatal(a, l, got)
				}
			}
		})
	}
}

// holdNumbers holds what Numbers tells of an attribute that may be.
func holdNumbers(t *testing.T, a api.Attr) {
	t.Helper()
	l, err := sgr.Numbers(a)
	if want := tells(a); written(l) != want || err != api.OK {
		t.Fatalf("%v: %v, %d, not %s", a, l, err, want)
	}
	if got := sgr.Apply(everything, l); got != a {
		t.Fatalf("%v: %v make %v", a, l, got)
	}
}

// TestNumbersExamples: some told outright.
func TestNumbersExamples(t *testing.T) {
	for _, x := range []struct {
		a    api.Attr
		want string
	}{
		{api.Attr{}, "0"},
		{api.Attr{Flags: 255}, "0;1;2;3;4;5;7;8;9"},
		{api.Attr{Flags: api.Strike | api.Bold}, "0;1;9"},
		{api.Attr{Fg: 1, Bg: 1}, "0;30;40"},
		{api.Attr{Fg: 8, Bg: 8}, "0;37;47"},
		{api.Attr{Fg: 9, Bg: 9}, "0;90;100"},
		{api.Attr{Fg: 16, Bg: 16}, "0;97;107"},
		{api.Attr{Fg: 17, Bg: 256}, "0;38;5;16;48;5;255"},
		{api.Attr{Fg: rgb, Bg: 2*rgb - 1}, "0;38;2;0;0;0;48;2;255;255;255"},
		{api.Attr{Flags: api.Inverse, Bg: rgb + 66051}, "0;7;48;2;1;2;3"},
	} {
		l, err := sgr.Numbers(x.a)
		if written(l) != x.want || err != api.OK {
			t.Errorf("%v: %v, %d, not %s", x.a, l, err, x.want)
		}
		holdNumbers(t, x.a)
	}
}

// TestNumbersOfAll goes through all flags, each colour of a number, and the
// edges.
func TestNumbersOfAll(t *testing.T) {
	for flags := range 256 {
		for _, c := range colours {
			holdNumbers(t, api.Attr{Fg: c, Flags: uint16(flags)})
			holdNumbers(t, api.Attr{Bg: c, Flags: uint16(flags)})
		}
	}
	for c := range uint32(257) {
		for _, other := range colours {
			holdNumbers(t, api.Attr{Fg: c, Bg: other})
			holdNumbers(t, api.Attr{Fg: other, Bg: c})
		}
	}
	for c := uint32(rgb); c < 2*rgb; c += 251 {
		holdNumbers(t, api.Attr{Fg: c, Bg: 3*rgb - 1 - c})
	}
	for _, a := range attrs() {
		holdNumbers(t, a)
	}
}

// TestNumbersOnAny: what Numbers tells makes its attribute out of any other
// one, also of one that may not be.
func TestNumbersOnAny(t *testing.T) {
	others := append(attrs(), api.Attr{Fg: math.MaxUint32, Bg: 257, Flags: math.MaxUint16})
	for _, a := range few {
		l, _ := sgr.Numbers(a)
		for _, other := range others {
			hold(t, other, l, a)
		}
	}
}

// TestNumbersRefused: of what may not be there are no numbers.
func TestNumbersRefused(t *testing.T) {
	refused := func(a api.Attr) {
		if l, err := sgr.Numbers(a); l != nil || err != api.ErrArg {
			t.Fatal(a, l, err)
		}
	}
	for flags := 256; flags < 1<<16; flags++ {
		refused(api.Attr{Flags: uint16(flags)})
	}
	for _, c := range wrongColours {
		for _, other := range colours {
			refused(api.Attr{Fg: c, Bg: other})
			refused(api.Attr{Fg: other, Bg: c})
		}
		refused(api.Attr{Fg: c, Bg: c, Flags: 256})
	}
}

// TestOwnMemory: what is handed in is not changed, nor what stands behind it,
// and no two answers share memory.
func TestOwnMemory(t *testing.T) {
	for _, s := range []string{"1;31", "38;5;200;4", "38;2;1;2;3;9", "38;2;1", "48;5;300;0", "38"} {
		whole := append(read(s), 77, 88)
		l := whole[:len(whole)-2]
		sgr.Apply(everything, l)
		if written(whole) != s+";77;88" {
			t.Error(s, "became", whole)
		}
	}
	for _, a := range append(attrs(), everything) {
		one, _ := sgr.Numbers(a)
		one = one[:cap(one)]
		for i := range one {
			one[i] = -7
		}
		holdNumbers(t, a)
	}
}

// TestNumbersOfLooks: the attribute's flags are those of package api.
func TestNumbersOfLooks(t *testing.T) {
	for n, flag := range map[int]uint16{
		1: api.Bold, 2: api.Faint, 3: api.Italic, 4: api.Under,
		5: api.Blink, 7: api.Inverse, 8: api.Hidden, 9: api.Strike,
	} {
		hold(t, api.Attr{}, []int{n}, api.Attr{Flags: flag})
		off := []int{n + 20}
		if n == 1 {
			off = []int{22}
		}
		want := everything
		want.Flags -= flag
		if n <= 2 {
			want.Flags = 255 - api.Bold - api.Faint
		}
		hold(t, everything, off, want)
	}
}
