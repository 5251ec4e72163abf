package utf_test

// pair holds the bounds of one byte, the first and the last that may be.
type pair struct{ first, last byte }

// The document's words on well formed sequences, one behind the other: written
// apart from the program's, so that a slip in either shows.
var wellFormed = [][]pair{
	{{0x00, 0x7f}},
	{{0xc2, 0xdf}, {0x80, 0xbf}},
	{{0xe0, 0xe0}, {0xa0, 0xbf}, {0x80, 0xbf}},
	{{0xe1, 0xec}, {0x80, 0xbf}, {0x80, 0xbf}},
	{{0xee, 0xee}, {0x80, 0xbf}, {0x80, 0xbf}},
	{{0xef, 0xef}, {0x80, 0xbf}, {0x80, 0xbf}},
	{{0xed, 0xed}, {0x80, 0x9f}, {0x80, 0xbf}},
	{{0xf0, 0xf0}, {0x90, 0xbf}, {0x80, 0xbf}, {0x80, 0xbf}},
	{{0xf1, 0xf3}, {0x80, 0xbf}, {0x80, 0xbf}, {0x80, 0xbf}},
	{{0xf4, 0xf4}, {0x80, 0x8f}, {0x80, 0xbf}, {0x80, 0xbf}},
}

const bad int32 = 0xfffd

// fit tells the longest stretch of bytes at the begin of b that goes along
// with one of the forms, and whether it is all of that form.
func fit(b []byte) (length int, whole bool) {
	for _, form := range wellFormed {
		n := 0
		for n < len(form) && n < len(b) && b[n] >= form[n].first && b[n] <= form[n].last {
			n++
		}
		if n > length {
			length, whole = n, n == len(form)
		}
	}
	return length, whole
}

// worth is the rune of a well formed sequence.
func worth(b []byte) int32 {
	own := []int32{0: 0, 1: 0x7f, 2: 0x1f, 3: 0x0f, 4: 0x07}
	r := int32(b[0]) & own[len(b)]
	for _, x := range b[1:] {
		r = r*64 + int32(x%64)
	}
	return r
}

// says is what bytes say, and how many of them are open.
func says(b []byte) (runes []int32, open int) {
	for len(b) > 0 {
		n, whole := fit(b)
		switch {
		case whole:
			runes = append(runes, worth(b[:n]))
		case n == len(b):
			return runes, n
		default:
			runes = append(runes, bad)
			n = max(n, 1)
		}
		b = b[n:]
	}
	return runes, 0
}

// edges are bytes at both sides of every bound that the document names.
var edges = []byte{
	0x00, 0x41, 0x7f, 0x80, 0x8f, 0x90, 0x9f, 0xa0, 0xbf, 0xc0, 0xc1, 0xc2, 0xdf,
	0xe0, 0xe1, 0xec, 0xed, 0xee, 0xef, 0xf0, 0xf1, 0xf3, 0xf4, 0xf5, 0xff,
}

// everyInput hands each input of length bytes, each byte one of alphabet.
func everyInput(alphabet []byte, length int, hand func(b []byte)) {
	b := make([]byte, length)
	var fill func(at int)
	fill = func(at int) {
		if at == length {
			hand(b)
			return
		}
		for _, x := range alphabet {
			b[at] = x
			fill(at + 1)
		}
	}
	fill(0)
}

func allBytes() []byte {
	b := make([]byte, 256)
	for i := range b {
		b[i] = byte(i)
	}
	return b
}
