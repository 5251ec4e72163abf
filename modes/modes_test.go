package modes_test

import (
	"math"
	"testing"

	"tactile/api"
	"tactile/modes"
)

// A named is a mode as the chapter names it: its numbers, whether these are private, its bit, and the modes of which it alone is on.
type named struct {
	private bool
	numbers []int
	bit     uint8
	alone   api.Modes
}

var all = []named{
	{false, []int{4}, 1, api.Modes{Insert: true}},
	{false, []int{20}, 2, api.Modes{NewLine: true}},
	{true, []int{1}, 4, api.Modes{CursorKeys: true}},
	{true, []int{6}, 8, api.Modes{Origin: true}},
	{true, []int{7}, 16, api.Modes{AutoWrap: true}},
	{true, []int{25}, 32, api.Modes{Visible: true}},
	{true, []int{47, 1047, 1049}, 64, api.Modes{Alternate: true}},
	{true, []int{2004}, 128, api.Modes{Paste: true}},
}

// by tells of which mode a number is; nil, if of none.
func by(private bool, n int) *named {
	for i, mode := range all {
		for _, its := range mode.numbers {
			if mode.private == private && its == n {
				return &all[i]
			}
		}
	}
	return nil
}

// both answers the modes that are on in one or in the other.
func both(a, b api.Modes) api.Modes {
	return api.Modes{
		Insert:     a.Insert || b.Insert,
		NewLine:    a.NewLine || b.NewLine,
		CursorKeys: a.CursorKeys || b.CursorKeys,
		Origin:     a.Origin || b.Origin,
		AutoWrap:   a.AutoWrap || b.AutoWrap,
		Visible:    a.Visible || b.Visible,
		Alternate:  a.Alternate || b.Alternate,
		Paste:      a.Paste || b.Paste,
	}
}

// sum answers the modes of which the bits are given, put together out of those that are on alone.
func sum(bits int) api.Modes {
	var m api.Modes
	for _, mode := range all {
		if bits&int(mode.bit) != 0 {
			m = both(m, mode.alone)
		}
	}
	return m
}

func TestDefault(t *testing.T) {
	want := api.Modes{AutoWrap: true, Visible: true}
	if got := modes.Default(); got != want {
		t.Fatalf("%+v, not %+v", got, want)
	}
	if got := modes.Bits(modes.Default()); got != 48 {
		t.Fatal(got)
	}
}

func TestBitsOfEachModeAlone(t *testing.T) {
	for _, mode := range all {
		if got := modes.Bits(mode.alone); got != mode.bit {
			t.Errorf("%+v: %d, not %d", mode.alone, got, mode.bit)
		}
		if got := modes.Of(mode.bit); got != mode.alone {
			t.Errorf("%d: %+v, not %+v", mode.bit, got, mode.alone)
		}
	}
	if got := modes.Bits(api.Modes{}); got != 0 {
		t.Error(got)
	}
	if got := modes.Of(0); got != (api.Modes{}) {
		t.Errorf("%+v", got)
	}
}

func TestBitsOfMany(t *testing.T) {
	for bits := range 256 {
		m := sum(bits)
		if got := modes.Bits(m); int(got) != bits {
			t.Errorf("%+v: %d, not %d", m, got, bits)
		}
		if got := modes.Of(uint8(bits)); got != m {
			t.Errorf("%d: %+v, not %+v", bits, got, m)
		}
	}
}

// every and few are the bits of modes that a number is put and got in.
func every() (bits []int) {
	for b := range 256 {
		bits = append(bits, b)
	}
	return bits
}

var few = []int{0, 0x30, 0x55, 0xaa, 0xff}

// hold puts the mode of a number on and off in modes of such bits, and gets it again.
func hold(t *testing.T, private bool, n int, in []int) {
	t.Helper()
	mode := by(private, n)
	for _, bits := range in {
		m := sum(bits)
		wantOn := mode != nil && bits&int(mode.bit) != 0
		if on, known := modes.Get(m, private, n); on != wantOn || known != (mode != nil) {
			t.Fatalf("Get %08b, %v, %d: %v, %v", bits, private, n, on, known)
		}
		for _, on := range []bool{true, false} {
			want := bits
			if mode != nil {
				want = bits &^ int(mode.bit)
				if on {
					want |= int(mode.bit)
				}
			}
			got, known := modes.Put(m, private, n, on)
			if got != sum(want) || known != (mode != nil) {
				t.Fatalf("Put %08b, %v, %d, %v: %+v, %v", bits, private, n, on, got, known)
			}
			if again, _ := modes.Get(got, private, n); mode != nil && again != on {
				t.Fatalf("%08b, %v, %d: %v was put, %v got", bits, private, n, on, again)
			}
		}
	}
}

func TestEachNumber(t *testing.T) {
	for _, mode := range all {
		for _, n := range mode.numbers {
			hold(t, mode.private, n, every())
			if _, known := modes.Get(mode.alone, mode.private, n); !known {
				t.Errorf("%v, %d is of none", mode.private, n)
			}
		}
	}
}

func TestNumbersThatAreOnlyPrivateOrOnlyNot(t *testing.T) {
	allOn := sum(255)
	for _, mode := range all {
		for _, n := range mode.numbers {
			hold(t, !mode.private, n, every())
			if on, known := modes.Get(allOn, !mode.private, n); on || known {
				t.Errorf("Get %v, %d: %v, %v", !mode.private, n, on, known)
			}
			if got, known := modes.Put(allOn, !mode.private, n, false); got != allOn || known {
				t.Errorf("Put %v, %d: %+v, %v", !mode.private, n, got, known)
			}
		}
	}
}

func TestNumbersOfNone(t *testing.T) {
	for _, private := range []bool{false, true} {
		for n := -300; n < 2100; n++ {
			hold(t, private, n, few)
		}
	}
}

func TestFarNumbers(t *testing.T) {
	far := []int{math.MinInt, math.MinInt + 4, math.MinInt32, -65536, 65535, 65536, math.MaxInt32, math.MaxInt}
	for _, mode := range all {
		for _, n := range mode.numbers {
			far = append(far, -n, n+256, n+1<<16, n+1<<32, n-1<<32)
		}
	}
	for _, n := range far {
		for _, private := range []bool{false, true} {
			hold(t, private, n, few)
		}
	}
}

func TestAlternateIsOneMode(t *testing.T) {
	three := []int{47, 1047, 1049}
	for _, put := range three {
		for _, got := range three {
			on, _ := modes.Put(modes.Default(), true, put, true)
			if is, known := modes.Get(on, true, got); !is || !known {
				t.Errorf("%d is on, %d: %v, %v", put, got, is, known)
			}
			off, _ := modes.Put(on, true, got, false)
			if is, known := modes.Get(off, true, put); is || !known {
				t.Errorf("%d is off, %d: %v, %v", got, put, is, known)
			}
		}
	}
}

func TestModesDoNotTouchEachOther(t *testing.T) {
	for _, one := range all {
		for _, other := range all {
			if one.bit == other.bit {
				continue
			}
			m, _ := modes.Put(other.alone, one.private, one.numbers[0], true)
			if m != both(one.alone, other.alone) {
				t.Errorf("%+v with %+v: %+v", other.alone, one.alone, m)
			}
			if m, _ = modes.Put(m, other.private, other.numbers[0], false); m != one.alone {
				t.Errorf("without %+v: %+v", other.alone, m)
			}
		}
	}
}

func TestTheChaptersExamples(t *testing.T) {
	if on, known := modes.Get(modes.Default(), true, 7); !on || !known {
		t.Error(on, known)
	}
	m, known := modes.Put(modes.Default(), true, 1049, true)
	if bits := modes.Bits(m); bits != 112 || !known {
		t.Error(bits, known)
	}
}
