package keys_test

import (
	"math"
	"slices"
	"testing"

	"tactile/api"
	"tactile/keys"
)

// manyModes are those that a key's bytes hang on, and all others on or off.
func manyModes() (all []api.Modes) {
	others := api.Modes{Insert: true, Origin: true, AutoWrap: true, Visible: true, Alternate: true}
	for _, m := range []api.Modes{{}, others} {
		for i := range 8 {
			m.CursorKeys, m.NewLine, m.Paste = i&1 > 0, i&2 > 0, i&4 > 0
			all = append(all, m)
		}
	}
	return all
}

// hold holds a key's bytes against the chapter's words.
func hold(t *testing.T, m api.Modes, k api.Key) {
	t.Helper()
	want, may := bytesOf(m, k)
	got, err := keys.Encode(m, k)
	if may && (err != api.OK || string(got) != want) {
		t.Fatalf("%+v, %+v: %q, %d, not %q", m, k, got, err, want)
	}
	if !may && (err != api.ErrArg || len(got) != 0) {
		t.Fatalf("%+v, %+v: %q, %d, but it may not be", m, k, got, err)
	}
}

func TestKeysOutright(t *testing.T) {
	app, line := api.Modes{CursorKeys: true}, api.Modes{NewLine: true}
	for _, x := range []struct {
		m    api.Modes
		k    api.Key
		want string
	}{
		// the chapter's examples
		{api.Modes{}, api.Key{Kind: api.KeyUp}, "\x1b\x5b\x41"},
		{app, api.Key{Kind: api.KeyUp}, "\x1b\x4f\x41"},
		{app, api.Key{Kind: api.KeyUp, Mods: 4}, "\x1b\x5b\x31\x3b\x35\x41"},
		{api.Modes{}, api.Key{Kind: api.KeyUp, Mods: 4}, "\x1b\x5b\x31\x3b\x35\x41"},
		{api.Modes{}, api.Key{Kind: api.KeyRune, R: 'c', Mods: 4}, "\x03"},
		{api.Modes{}, api.Key{Kind: api.KeyRune, R: 'x', Mods: 2}, "\x1bx"},
		{api.Modes{}, api.Key{Kind: api.KeyF, N: 5}, "\x1b\x5b\x31\x35\x7e"},
		// runes
		{api.Modes{}, api.Key{Kind: api.KeyRune, R: 'a'}, "a"},
		{api.Modes{}, api.Key{Kind: api.KeyRune, R: 'a', Mods: 1}, "a"},
		{api.Modes{}, api.Key{Kind: api.KeyRune}, "\x00"},
		{api.Modes{}, api.Key{Kind: api.KeyRune, R: 0xe4}, "\xc3\xa4"},
		{api.Modes{}, api.Key{Kind: api.KeyRune, R: 0x20ac, Mods: 7}, "\x1b\xe2\x82\xac"},
		{api.Modes{}, api.Key{Kind: api.KeyRune, R: 0x10ffff}, "\xf4\x8f\xbf\xbf"},
		{api.Modes{}, api.Key{Kind: api.KeyRune, R: '@', Mods: 4}, "\x00"},
		{api.Modes{}, api.Key{Kind: api.KeyRune, R: '_', Mods: 4}, "\x1f"},
		{api.Modes{}, api.Key{Kind: api.KeyRune, R: '`', Mods: 4}, "`"},
		{api.Modes{}, api.Key{Kind: api.KeyRune, R: 'z', Mods: 6}, "\x1b\x1a"},
		{api.Modes{}, api.Key{Kind: api.KeyRune, R: '{', Mods: 4}, "{"},
		{api.Modes{}, api.Key{Kind: api.KeyRune, R: ' ', Mods: 5}, "\x00"},
		{api.Modes{}, api.Key{Kind: api.KeyRune, R: 0xa0, Mods: 4}, "\xc2\xa0"},
		{api.Modes{}, api.Key{Kind: api.KeyRune, R: 0x3000, Mods: 4}, "\xe3\x80\x80"},
		{api.Modes{}, api.Key{Kind: api.KeyRune, R: '?', Mods: 4}, "\x7f"},
		{api.Modes{}, api.Key{Kind: api.KeyRune, R: '1', Mods: 4}, "1"},
		// named ones
		{app, api.Key{Kind: api.KeyHome}, "\x1bOH"},
		{api.Modes{}, api.Key{Kind: api.KeyEnd, Mods: 7}, "\x1b[1;8F"},
		{app, api.Key{Kind: api.KeyInsert}, "\x1b[2~"},
		{api.Modes{}, api.Key{Kind: api.KeyPageDown, Mods: 1}, "\x1b[6;2~"},
		{api.Modes{}, api.Key{Kind: api.KeyF, N: 4}, "\x1bOS"},
		{app, api.Key{Kind: api.KeyF, N: 1, Mods: 2}, "\x1b[1;3P"},
		{api.Modes{}, api.Key{Kind: api.KeyF, N: 12, Mods: 3}, "\x1b[24;4~"},
		// controls
		{api.Modes{}, api.Key{Kind: api.KeyEnter}, "\r"},
		{line, api.Key{Kind: api.KeyEnter, Mods: 5}, "\r\n"},
		{line, api.Key{Kind: api.KeyEnter, Mods: 2}, "\x1b\r\n"},
		{api.Modes{}, api.Key{Kind: api.KeyTab, Mods: 4}, "\t"},
		{api.Modes{}, api.Key{Kind: api.KeyTab, Mods: 3}, "\x1b\x1b[Z"},
		{api.Modes{}, api.Key{Kind: api.KeyBack, Mods: 1}, "\x7f"},
		{api.Modes{}, api.Key{Kind: api.KeyBack, Mods: 6}, "\x1b\x08"},
		{api.Modes{}, api.Key{Kind: api.KeyEscape, Mods: 5}, "\x1b"},
		{api.Modes{}, api.Key{Kind: api.KeyEscape, Mods: 2}, "\x1b\x1b"},
	} {
		got, err := keys.Encode(x.m, x.k)
		if err != api.OK || string(got) != x.want {
			t.Errorf("%+v, %+v: %q, %d, not %q", x.m, x.k, got, err, x.want)
		}
	}
}

func TestEachKindWithAllModsAndNumbers(t *testing.T) {
	for _, m := range manyModes() {
		for kind := range 256 {
			for mods := range 256 {
				hold(t, m, api.Key{Kind: uint8(kind), Mods: uint8(mods)})
			}
			for n := -20; n <= 30; n++ {
				for mods := range uint8(9) {
					hold(t, m, api.Key{Kind: uint8(kind), N: n, Mods: mods})
				}
			}
		}
	}
}

func TestKeysWithARuneOrANumberThatIsNotTheirs(t *testing.T) {
	runes := []int32{math.MinInt32, -1, 1, 'a', 0xd800, 0xffff, 0x10ffff, 0x110000, math.MaxInt32}
	numbers := []int{math.MinInt, -1 << 32, -1, 1, 5, 12, 13, 1 << 8, 1<<8 + 1, 1<<32 + 1, 1<<32 + 5, math.MaxInt}
	for _, m := range manyModes() {
		for kind := range uint8(20) {
			for _, r := range runes {
				hold(t, m, api.Key{Kind: kind, R: r})
				hold(t, m, api.Key{Kind: kind, R: r, N: 1})
			}
			for _, n := range numbers {
				hold(t, m, api.Key{Kind: kind, N: n})
				hold(t, m, api.Key{Kind: kind, R: 'a', N: n})
			}
		}
	}
}

func TestEachRune(t *testing.T) {
	for mods := range uint8(9) {
		for r := int32(-70000); r < 0x120000; r++ {
			// Beyond the first ones all are alike but at the edges.
			if r > 0x3000 && r%61 != 0 && (r+3)&0x7ff > 6 {
				continue
			}
			hold(t, api.Modes{}, api.Key{Kind: api.KeyRune, R: r, Mods: mods})
		}
		for _, r := range []int32{math.MinInt32, math.MinInt32 + 'a', math.MaxInt32 - 1, math.MaxInt32} {
			hold(t, api.Modes{}, api.Key{Kind: api.KeyRune, R: r, Mods: mods})
		}
	}
}

func TestWhatIsToldIsItsOwn(t *testing.T) {
	k := api.Key{Kind: api.KeyF, N: 7, Mods: 3}
	tell := map[string]func() []byte{
		"\x1b[18;4~":         func() []byte { b, _ := keys.Encode(api.Modes{}, k); return b },
		"ab":                 func() []byte { return keys.Paste(api.Modes{}, []int32{'a', 'b'}) },
		"\x1b[3;4R":          func() []byte { return keys.Cursor(3, 4) },
		"\x1b[0n":            func() []byte { return keys.Status() },
		"\x1b[?62;22c":       func() []byte { return keys.Device() },
		"\x1b[A":             func() []byte { return keys.Arrow(api.Modes{}, api.KeyUp) },
		"\x1b[200~\x1b[201~": func() []byte { return keys.Paste(api.Modes{Paste: true}, nil) },
	}
	for want, ask := range tell {
		for range 2 {
			got := ask()
			if string(got) != want {
				t.Errorf("%q, not %q", got, want)
			}
			clear(got[:cap(got)])
		}
	}
}

// holdPaste holds a pasted text's bytes against the chapter's words, with the mode Paste on and off.
func holdPaste(t *testing.T, text []int32) {
	t.Helper()
	before := slices.Clone(text)
	for _, m := range manyModes() {
		got, want := keys.Paste(m, text), pasteOf(m, text)
		if string(got) != want {
			t.Fatalf("%+v, %x: %q, not %q", m, text, got, want)
		}
		if !slices.Equal(text, before) {
			t.Fatalf("%x has become %x", before, text)
		}
	}
}

func TestPasteOutright(t *testing.T) {
	for _, x := range []struct {
		text []int32
		want string
	}{
		{nil, ""},
		{[]int32{}, ""},
		{[]int32{'a', 9, 'b'}, "a\tb"},
		{[]int32{13, 10, 'a'}, "\ra"},
		{[]int32{10, 10, 13, 13, 10, 10}, "\r\r\r\r\r"},
		{[]int32{10, 13}, "\r\r"},
		{[]int32{13, 1, 10}, "\r\r"},
		{[]int32{13, -1, 10}, "\r\r"},
		{[]int32{27, '[', '2', '0', '1', '~'}, "[201~"},
		{[]int32{0x9b, '2', 0x7f, 0x80, 0x9f, 0xa0, '~'}, "2\u00a0~"},
		{[]int32{0xd800, 0xdfff, -1, 0x110000, 0xd7ff, 0xe000, 0x10ffff, 0xfffd}, "\ud7ff\ue000\U0010ffff\ufffd"},
		{[]int32{0, 8, 11, 12, 14, 31, 32}, " "},
	} {
		if got := keys.Paste(api.Modes{}, x.text); string(got) != x.want {
			t.Errorf("%x: %q, not %q", x.text, got, x.want)
		}
		want := "\x1b[200~" + x.want + "\x1b[201~"
		if got := keys.Paste(api.Modes{Paste: true}, x.text); string(got) != want {
			t.Errorf("%x, with the mode: %q, not %q", x.text, got, want)
		}
	}
}

func TestPasteOfEachRune(t *testing.T) {
	edges := []int32{math.MinInt32, -1, 0xd7ff, 0xd800, 0xdfff, 0xe000, 0xfffd, 0xffff, 0x10000, 0x10ffff, 0x110000, math.MaxInt32, math.MinInt32 + 13}
	for r := range int32(0x400) {
		edges = append(edges, r, r-1<<8, r+1<<16, r-1<<16)
	}
	for _, r := range edges {
		holdPaste(t, []int32{r})
		holdPaste(t, []int32{'a', r, 'b', r})
		holdPaste(t, []int32{13, r, 10})
	}
}

func TestPasteOfAllShortTexts(t *testing.T) {
	kinds := []int32{'a', 9, 10, 13, 27, 0x85, 0x20ac, -1}
	texts := [][]int32{nil}
	for range 4 {
		var longer [][]int32
		for _, text := range texts {
			holdPaste(t, text)
			for _, r := range kinds {
				longer = append(longer, append(slices.Clone(text), r))
			}
		}
		texts = longer
	}
	for _, text := range texts {
		holdPaste(t, text)
	}
}

func TestPasteOfALongText(t *testing.T) {
	text := make([]int32, 5000)
	x := uint32(7)
	for i := range text {
		x = x*1664525 + 1013904223
		text[i] = int32(x>>16) % 0x120
	}
	holdPaste(t, text)
}

func TestPasteHasNoEscapeBetweenItsBrackets(t *testing.T) {
	text := make([]int32, 0x400)
	for i := range text {
		text[i] = int32(i)
	}
	got := string(keys.Paste(api.Modes{Paste: true}, text))
	for i, b := range []byte(got[6 : len(got)-6]) {
		if b == 27 {
			t.Fatalf("at %d of %q", i, got)
		}
	}
}

func TestCursor(t *testing.T) {
	for _, x := range []struct {
		row, col int
		want     string
	}{
		{1, 1, "\x1b[1;1R"},
		{2, 80, "\x1b[2;80R"},
		{512, 9, "\x1b[512;9R"},
		{0, 0, "\x1b[1;1R"},
		{-5, 7, "\x1b[1;7R"},
		{7, -1, "\x1b[7;1R"},
		{1 << 32, 65536, "\x1b[4294967296;65536R"},
		{math.MinInt, math.MaxInt, "\x1b[1;9223372036854775807R"},
		{math.MaxInt, math.MinInt, "\x1b[9223372036854775807;1R"},
	} {
		if got := keys.Cursor(x.row, x.col); string(got) != x.want {
			t.Errorf("%d, %d: %q, not %q", x.row, x.col, got, x.want)
		}
	}
}

func TestStatusAndDevice(t *testing.T) {
	if got := keys.Status(); string(got) != "\x1b[0n" {
		t.Errorf("%q", got)
	}
	if got := keys.Device(); string(got) != "\x1b[?62;22c" {
		t.Errorf("%q", got)
	}
}

func TestArrowOfEachKind(t *testing.T) {
	letters := map[uint8]string{api.KeyUp: "A", api.KeyDown: "B", api.KeyRight: "C", api.KeyLeft: "D"}
	for _, m := range manyModes() {
		for kind := range 256 {
			want := ""
			if letter := letters[uint8(kind)]; letter != "" {
				want = "\x1b[" + letter
				if m.CursorKeys {
					want = "\x1bO" + letter
				}
			}
			if got := keys.Arrow(m, uint8(kind)); string(got) != want {
				t.Errorf("%+v, %d: %q, not %q", m, kind, got, want)
			}
		}
	}
}
