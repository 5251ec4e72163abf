package utf_test

import (
	"math"
	"slices"
	"testing"
	"unicode/utf8"

	"tactile/api"
	"tactile/utf"
)

// examples are the document's own, and the edges that its words name.
var examples = []struct {
	bytes string
	runes []int32
}{
	{"", nil},
	{"\x61\xc3\xa4", []int32{97, 0xe4}},
	{"\xf0\x90\x61", []int32{bad, 97}},
	{"\xe0\x80", []int32{bad, bad}},
	{"\xed\xa0\x80", []int32{bad, bad, bad}},
	{"\x00\x7f", []int32{0, 0x7f}},
	{"\x80\xbf", []int32{bad, bad}},
	{"\xc0\xaf\xc1\xbf", []int32{bad, bad, bad, bad}},
	{"\xc2\x80\xdf\xbf", []int32{0x80, 0x7ff}},
	{"\xe0\x9f\xbf\xe0\xa0\x80", []int32{bad, bad, bad, 0x800}},
	{"\xed\x9f\xbf\xee\x80\x80", []int32{0xd7ff, 0xe000}},
	{"\xef\xbf\xbd\xef\xbf\xbf", []int32{bad, 0xffff}},
	{"\xf0\x8f\xbf\xbf\xf0\x90\x80\x80", []int32{bad, bad, bad, bad, 0x10000}},
	{"\xf4\x8f\xbf\xbf\xf4\x90\x80\x80", []int32{0x10ffff, bad, bad, bad, bad}},
	{"\xf5\x80\xff", []int32{bad, bad, bad}},
	{"\xf1\x80\x80\xf1\x80\x80\x80", []int32{bad, 0x40000}},
	{"\xe2\x82\xc3\xa4", []int32{bad, 0xe4}},
	{"\xe2\x82\xff", []int32{bad, bad}},
	{"\xe2\x82\xe2\x82\xac", []int32{bad, 0x20ac}},
	{"\xf0\x9f\x98", []int32{bad}},
	{"\xc3", []int32{bad}},
}

func TestDecodeExamples(t *testing.T) {
	for _, x := range examples {
		if got := utf.Decode([]byte(x.bytes)); !slices.Equal(got, x.runes) {
			t.Errorf("Decode(% x) = %x, want %x", x.bytes, got, x.runes)
		}
	}
}

func TestDecodeNothing(t *testing.T) {
	if got := utf.Decode(nil); len(got) != 0 {
		t.Errorf("Decode(nil) = %x", got)
	}
}

// checkInput holds a decoder against the document's words after each byte of
// b, then its end, then all of b at once.
func checkInput(t *testing.T, b []byte) {
	t.Helper()
	d := utf.New()
	told, open := 0, 0
	for i, x := range b {
		want, o := says(b[:i+1])
		if got := d.Feed(x); !slices.Equal(got, want[told:]) {
			t.Fatalf("% x: Feed of byte %d = %x, want %x", b, i, got, want[told:])
		}
		if d.Open() != o {
			t.Fatalf("% x: Open after byte %d = %d, want %d", b, i, d.Open(), o)
		}
		told, open = len(want), o
	}
	all, _ := says(b)
	var rest []int32
	if open > 0 {
		rest = []int32{bad}
	}
	if got := d.End(); !slices.Equal(got, rest) {
		t.Fatalf("% x: End = %x, want %x", b, got, rest)
	}
	if d.Open() != 0 || len(d.End()) != 0 {
		t.Fatalf("% x: something is open behind the end", b)
	}
	all = append(all, rest...)
	if got := utf.Decode(b); !slices.Equal(got, all) {
		t.Fatalf("Decode(% x) = %x, want %x", b, got, all)
	}
}

func TestEveryTwoBytes(t *testing.T) {
	for n := range 3 {
		everyInput(allBytes(), n, func(b []byte) { checkInput(t, b) })
	}
}

func TestEdgesOfFourBytes(t *testing.T) {
	for _, n := range []int{3, 4} {
		everyInput(edges, n, func(b []byte) { checkInput(t, b) })
	}
}

func TestLongerInputs(t *testing.T) {
	few := []byte{0x41, 0x80, 0x90, 0xa0, 0xc3, 0xe0, 0xed, 0xf0, 0xf4}
	everyInput(few, 5, func(b []byte) { checkInput(t, b) })
	everyInput([]byte{0x80, 0xe1, 0xf1}, 9, func(b []byte) { checkInput(t, b) })
}

// TestTwoRunesAtMost: a byte makes sure of what it ended, and of itself.
func TestTwoRunesAtMost(t *testing.T) {
	d := utf.New()
	steps := []struct {
		b    byte
		want []int32
		open int
	}{
		{0xf0, nil, 1}, {0x9f, nil, 2}, {0x98, nil, 3}, {0x41, []int32{bad, 0x41}, 0},
		{0xe2, nil, 1}, {0xe2, []int32{bad}, 1}, {0xff, []int32{bad, bad}, 0},
		{0xc3, nil, 1}, {0xa4, []int32{0xe4}, 0}, {0xa4, []int32{bad}, 0},
	}
	for i, s := range steps {
		if got := d.Feed(s.b); !slices.Equal(got, s.want) || d.Open() != s.open {
			t.Errorf("step %d: %x, open %d; want %x, %d", i, got, d.Open(), s.want, s.open)
		}
	}
}

func TestEndGoesOnAnew(t *testing.T) {
	d := utf.New()
	if got := d.End(); len(got) != 0 {
		t.Errorf("End of nothing = %x", got)
	}
	d.Feed(0xe2)
	d.Feed(0x82)
	if got := d.End(); !slices.Equal(got, []int32{bad}) || d.Open() != 0 {
		t.Errorf("End = %x, open %d", got, d.Open())
	}
	// 0xac would have ended the sequence: behind its end it is one Bad.
	if got := d.Feed(0xac); !slices.Equal(got, []int32{bad}) {
		t.Errorf("Feed behind the end = %x", got)
	}
	d.Feed(0xc3)
	if got := d.Feed(0xa4); !slices.Equal(got, []int32{0xe4}) {
		t.Errorf("a sequence behind the end = %x", got)
	}
}

// TestCopy: at every place within a sequence, the copy and the first one go
// their own ways.
func TestCopy(t *testing.T) {
	smile := []byte("\xf0\x9f\x98\x80")
	for cut := range smile {
		d := utf.New()
		for _, x := range smile[:cut] {
			d.Feed(x)
		}
		c := d.Copy()
		if c == d || c.Open() != cut {
			t.Fatalf("a copy after %d bytes has %d open", cut, c.Open())
		}
		broken := c.Feed('x')
		if want, _ := says(append(slices.Clone(smile[:cut]), 'x')); !slices.Equal(broken, want) {
			t.Errorf("the copy after %d bytes: %x, want %x", cut, broken, want)
		}
		if d.Open() != cut {
			t.Errorf("the first one went along: %d open, want %d", d.Open(), cut)
		}
		var got []int32
		for _, x := range smile[cut:] {
			got = append(got, d.Feed(x)...)
		}
		if !slices.Equal(got, []int32{0x1f600}) {
			t.Errorf("the first one after %d bytes: %x", cut, got)
		}
	}
}

func TestZeroDecoder(t *testing.T) {
	everyInput(edges, 2, func(b []byte) {
		var zero utf.Decoder
		made := utf.New()
		for _, x := range b {
			if got, want := zero.Feed(x), made.Feed(x); !slices.Equal(got, want) || zero.Open() != made.Open() {
				t.Fatalf("% x: %x, want %x", b, got, want)
			}
		}
		if got, want := zero.Copy().End(), made.End(); !slices.Equal(got, want) {
			t.Fatalf("% x: End %x, want %x", b, got, want)
		}
	})
	if len(new(utf.Decoder).End()) != 0 || new(utf.Decoder).Open() != 0 {
		t.Error("something is open of a zero one")
	}
}

func TestNoDecoder(t *testing.T) {
	var d *utf.Decoder
	for _, x := range []byte("a\xc3\xa4\xff") {
		if got := d.Feed(x); len(got) != 0 || d.Open() != 0 {
			t.Errorf("Feed(%x) = %x, open %d", x, got, d.Open())
		}
	}
	if got := d.End(); len(got) != 0 {
		t.Errorf("End = %x", got)
	}
	if d.Copy() != nil {
		t.Error("a copy of none is one")
	}
}

// TestAnswersAreTheirOwn: what is told stays, whoever writes over what else.
func TestAnswersAreTheirOwn(t *testing.T) {
	d := utf.New()
	first := d.Feed('a')
	first[0] = 7
	second := d.Feed('b')
	if first[0] != 7 || second[0] != 'b' {
		t.Errorf("told %x and %x", first, second)
	}
	in := []byte("\xc3\xa4\xff")
	out := utf.Decode(in)
	if string(in) != "\xc3\xa4\xff" {
		t.Errorf("what was handed in is now % x", in)
	}
	in[0] = 'x'
	if out[0] != 0xe4 {
		t.Errorf("what was told is now %x", out)
	}
}

func mayBe(r int32) bool { return r >= 0 && r <= api.MaxRune && !(r >= 0xd800 && r <= 0xdfff) }

// TestEncodeEveryRune: the library's encoding of a rune is the same, byte by
// byte; of what is none it is asked for Bad's.
func TestEncodeEveryRune(t *testing.T) {
	check := func(r int32) {
		want := r
		if !mayBe(r) {
			want = bad
		}
		b := utf.Encode(r)
		if !slices.Equal(b, utf8.AppendRune(nil, want)) {
			t.Fatalf("Encode(%#x) = % x", r, b)
		}
		if n, whole := fit(b); !whole || n != len(b) || worth(b) != want {
			t.Fatalf("Encode(%#x) = % x is not its well formed sequence", r, b)
		}
		if got := utf.Decode(b); !slices.Equal(got, []int32{want}) {
			t.Fatalf("Decode(Encode(%#x)) = %x", r, got)
		}
	}
	for r := int32(-0x100); r <= api.MaxRune+0x100; r++ {
		check(r)
	}
	for _, r := range []int32{math.MinInt32, math.MinInt32 + 1, -0x10000, 0x200000, 0x7fffffff - 1, math.MaxInt32} {
		check(r)
	}
}

func TestEncodeExamples(t *testing.T) {
	for _, x := range []struct {
		r    int32
		want string
	}{
		{0, "\x00"}, {0x7f, "\x7f"}, {0x80, "\xc2\x80"}, {0x7ff, "\xdf\xbf"}, {0x800, "\xe0\xa0\x80"},
		{0xd7ff, "\xed\x9f\xbf"}, {0xd800, "\xef\xbf\xbd"}, {0xdfff, "\xef\xbf\xbd"}, {0xe000, "\xee\x80\x80"},
		{0xfffd, "\xef\xbf\xbd"}, {0xffff, "\xef\xbf\xbf"}, {0x10000, "\xf0\x90\x80\x80"},
		{0x10ffff, "\xf4\x8f\xbf\xbf"}, {0x110000, "\xef\xbf\xbd"}, {-1, "\xef\xbf\xbd"},
	} {
		if got := utf.Encode(x.r); string(got) != x.want {
			t.Errorf("Encode(%#x) = % x, want % x", x.r, got, x.want)
		}
	}
}

// TestCutAnywhere: however bytes are cut in parts, the runes are the same,
// also where the parts go through copies.
func TestCutAnywhere(t *testing.T) {
	in := []byte("h\xc3\xa4\xe2\x82\xac\xf0\x9f\x98\x80\xed\xa0\x80\xf0\x9f\x98\xc3\xe2\x82")
	want := utf.Decode(in)
	for cut := range len(in) + 1 {
		d := utf.New()
		var got []int32
		for _, x := range in[:cut] {
			got = append(got, d.Feed(x)...)
		}
		d = d.Copy()
		for _, x := range in[cut:] {
			got = append(got, d.Feed(x)...)
		}
		if got = append(got, d.End()...); !slices.Equal(got, want) {
			t.Errorf("cut at %d: %x, want %x", cut, got, want)
		}
	}
}

// TestDecodeLong: a long input of beginnings alone takes
// no more than its length asks for.
func TestDecodeLong(t *testing.T) {
	in := make([]byte, 0, 3<<18)
	for range 1 << 18 {
		in = append(in, 0xf0, 0x9f, 0x98)
	}
	got := utf.Decode(in)
	if len(got) != 1<<18 {
		t.Errorf("%d runes, want %d", len(got), 1<<18)
	}
}
