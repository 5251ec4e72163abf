package emu_test

import (
	"fmt"
	"slices"
	"strings"
	"testing"

	"tactile/api"
	"tactile/emu"
)

// run is a terminal to which acts of a text were done.
func run(t *testing.T, rows, cols int, text string) *emu.Term {
	t.Helper()
	x, err := emu.New(rows, cols, 9)
	if err != api.OK {
		t.Fatal(rows, cols, err)
	}
	do(x, text)
	return x
}

// do does what a text says.
func do(x *emu.Term, text string) {
	for _, a := range acts(text) {
		x.Do(a)
	}
}

// TestTold: cells and the cursor, outright.
func TestTold(t *testing.T) {
	for _, e := range []struct {
		rows, cols          int
		text, cells, cursor string
	}{
		// The document's examples.
		{2, 4, "abcd", "abcd/....", "0,3!"},
		{2, 4, "abcde", "abcd/e...", "1,1"},
		{2, 4, "\x1b[2;3Hx", "..../..x.", "1,3"},
		{2, 4, "abcde\x1b[2;3Hx\x1b[?1049h\x1b[?1049l", "abcd/e.x.", "1,3"},
		{2, 4, "abcd\x1b[?1049h\x1b[?1049l", "abcd/....", "0,3!"},

		// Prints: of each width, wraps.
		{2, 4, "a b", "a.b./....", "0,3"},
		{2, 4, "\u4e00a", "\u4e00>a./....", "0,3"},
		{2, 4, "\u4e00\u4e00", "\u4e00>\u4e00>/....", "0,3!"},
		{2, 4, "\u4e00\u4e00\u4e00", "\u4e00>\u4e00>/\u4e00>..", "1,2"},
		{2, 4, "abc\u4e00", "abc./\u4e00>..", "1,2"},
		{2, 4, "abcd\u4e00", "abcd/\u4e00>..", "1,2"},
		{2, 4, "ab\u4e00c", "ab\u4e00>/c...", "1,1"},
		{2, 4, "abcdefghi", "efgh/i...", "1,1"},
		{2, 4, "\x1b[?7labcdef", "abcf/....", "0,3"},
		{2, 4, "abcd\x1b[?7l", "abcd/....", "0,3!"},
		{2, 4, "abcd\x1b[?7le", "abce/....", "0,3"},
		{2, 4, "abcd\x1b[?7l\x1b[?7he", "abcd/e...", "1,1"},
		{2, 4, "\x1b[?7labc\u4e00", "ab\u4e00>/....", "0,3"},
		{2, 4, "\x1b[?7labcd\u4e00", "ab\u4e00>/....", "0,3"},
		{2, 4, "\x1b[?7labcd\x1b[?7he", "abce/....", "0,3!"},
		{2, 4, "abcd\x1b[1;4He", "abce/....", "0,3!"},
		{2, 2, "\u4e00\u4e00\u4e00", "\u4e00>/\u4e00>", "1,1!"},
		{2, 2, "a\u4e00", "a./\u4e00>", "1,1!"},
		{2, 2, "\x1b[?7la\u4e00", "\u4e00>/..", "0,1"},
		{2, 1, "\u4e00", "\ufffd/.", "0,0!"},
		{2, 1, "a\u4e00", "a/\ufffd", "1,0!"},
		{2, 1, "\x1b[?7la\u4e00", "\ufffd/.", "0,0"},
		{1, 1, "ab", "b", "0,0!"},
		{1, 1, "\x1b[?7lab", "b", "0,0"},
		{3, 2, "\x1b[1;2rabcdef", "cd/ef/..", "1,1!"},
		{3, 2, "\x1b[1;2r\x1b[3;1Habc", "../../cb", "2,1"},

		// A print parts halves.
		{1, 4, "\u4e00\u4e00\x1b[2Gx", ".x\u4e00>", "0,2"},
		{1, 4, "\u4e00\u4e00\x1b[2G\u4e00", ".\u4e00>.", "0,3"},

		// Insert.
		{1, 4, "abc\x1b[4h\x1b[Hx", "xabc", "0,1"},
		{1, 4, "abcd\x1b[4h\x1b[2Gx", "axbc", "0,2"},
		{1, 4, "abcd\x1b[4h\x1b[2G\u4e00", "a\u4e00>b", "0,3"},
		{1, 4, "ab\u4e00\x1b[4h\x1b[Hx", "xab.", "0,1"},
		{1, 4, "abcd\x1b[4h\x1b[?7lx", "abcx", "0,3"},
		{1, 4, "abc\x1b[4h\x1b[H\x1b[4lx", "xbc.", "0,1"},
		{2, 4, "abcd\x1b[4hx", "abcd/x...", "1,1"},

		// Joins.
		{1, 4, "a\u0301", "a\u0301...", "0,1"},
		{1, 4, "\u0301", "....", "0,0"},
		{1, 4, "ab\r\u0301", "ab..", "0,0"},
		{1, 4, "ab\x08\u0301", "a\u0301b..", "0,1"},
		{1, 4, "abcd\u0301", "abcd\u0301", "0,3!"},
		{1, 4, "abcd\x1b[4G\u0301", "abc\u0301d", "0,3"},
		{1, 4, "\x1b[?7labcd\u0301", "abc\u0301d", "0,3"},
		{1, 4, "\u4e00\u0301", "\u4e00\u0301>..", "0,2"},
		{1, 4, "\u4e00\x1b[2G\u0301", "\u4e00\u0301>..", "0,1"},
		{1, 4, "\u4e00\u4e00\u0301", "\u4e00>\u4e00\u0301>", "0,3!"},
		{1, 4, "\x1b[3G\u0301", ". \u0301..", "0,2"},
		{1, 4, "a\u0301\u0302\u0303\u0304\u0305b", "a\u0301\u0302\u0303\u0304b..", "0,2"},
		{1, 1, "a\u0301", "a\u0301", "0,0!"},
		{1, 1, "\x1b[?7la\u0301", "a", "0,0"},
		{2, 1, "a\u0301b", "a\u0301/b", "1,0!"},
		{1, 4, "a\u200bb\ufe0f", "a\u200bb\ufe0f..", "0,2"},

		// Charsets.
		{1, 8, "\x1b(0q#_`~\x1b(Bq_", "\u2500#.\u25c6\u00b7q_.", "0,7"},
		{1, 8, "\x1b(A#q\x1b)0\x0e#q\x0f#q\x1b(B#", "\u00a3q#\u2500\u00a3q#.", "0,7"},
		{1, 8, "\x0eq\x1b)0q\x1b)Aq#\x1b)Bq#", "q\u2500q\u00a3q#..", "0,6"},
		{1, 8, "\x1b(0\u4e00\u00e4", "\u4e00>\u00e4.....", "0,3"},

		// Controls.
		{1, 4, "ab\x08c", "ac..", "0,2"},
		{1, 4, "\x08\x08x", "x...", "0,1"},
		{1, 4, "abcd\x08x", "abxd", "0,3"},
		{1, 20, "\ta\tb\tc", "........a.......b..c", "0,19!"},
		{1, 4, "abcd\tx", "abcx", "0,3!"},
		{2, 4, "ab\nc", "ab../..c.", "1,3"},
		{2, 4, "ab\x0bc", "ab../..c.", "1,3"},
		{2, 4, "ab\x0cc", "ab../..c.", "1,3"},
		{2, 4, "\x1b[20hab\nc", "ab../c...", "1,1"},
		{2, 4, "\x1b[20hab\x0bc", "ab../c...", "1,1"},
		{2, 4, "\x1b[20hab\x0cc", "ab../c...", "1,1"},
		{2, 4, "\x1b[20h\x1b[20lab\nc", "ab../..c.", "1,3"},
		{2, 4, "abcd\nx", "abcd/...x", "1,3!"},
		{2, 4, "ab\r\ncd\r\nef", "cd../ef..", "1,2"},
		{4, 2, "a\r\nb\r\nc\r\nd\x1b[2;3r\x1b[3;1H\n", "a./c./../d.", "2,0"},
		{4, 2, "a\r\nb\r\nc\r\nd\x1b[2;3r\x1b[4;1H\n", "a./b./c./d.", "3,0"},
		{4, 2, "a\r\nb\r\nc\r\nd\x1b[2;3r\x1b[1;1H\n", "a./b./c./d.", "1,0"},
		{4, 2, "a\r\nb\r\nc\r\nd\x1b[1;2r\x1b[2;1H\n", "b./../c./d.", "1,0"},
		{2, 4, "abcd\re", "ebcd/....", "0,1"},
		{2, 4, "ab\u0084c", "ab../..c.", "1,3"},
		{2, 4, "ab\x1bDc", "ab../..c.", "1,3"},
		{2, 4, "\x1b[20hab\u0084c", "ab../..c.", "1,3"},
		{2, 4, "ab\u0085c", "ab../c...", "1,1"},
		{2, 4, "ab\x1bEc", "ab../c...", "1,1"},
		{2, 4, "a\r\nb\x1bEc", "b.../c...", "1,1"},
		{2, 4, "abcd\x1bDx", "abcd/...x", "1,3!"},
		{1, 8, "ab\x1bHc\r\tx", "abx.....", "0,3"},
		{1, 8, "ab\u0088c\r\tx", "abx.....", "0,3"},
		{2, 4, "a\r\nb\x1bMc", "ac../b...", "0,2"},
		{2, 4, "a\r\nb\u008dc", "ac../b...", "0,2"},
		{2, 4, "a\u008db", ".b../a...", "0,2"},
		{2, 4, "abcd\x1bMb", "...b/abcd", "0,3!"},
		{4, 2, "a\r\nb\r\nc\r\nd\x1b[2;3r\x1b[2;2H\x1bM", "a./../b./d.", "1,1"},
		{4, 2, "a\r\nb\r\nc\r\nd\x1b[2;3r\x1b[1;2H\x1bM", "a./b./c./d.", "0,1"},
		{4, 2, "a\r\nb\r\nc\r\nd\x1b[2;3r\x1b[4;2H\x1bM", "a./b./c./d.", "2,1"},

		// What is saved, and what comes again.
		{2, 4, "ab\x1b7\r\nc\x1b8x", "abx./c...", "0,3"},
		{2, 4, "ab\x1b7c\x1b8x\x1b8y", "aby./....", "0,3"},
		{2, 4, "ab\x1b8c", "cb../....", "0,1"},
		{2, 4, "abcd\x1b7\r\x1b8e", "abcd/e...", "1,1"},
		{2, 4, "\x1b[2;3H\x1b8", "..../....", "0,0"},
		{2, 4, "abcd\x1b8", "abcd/....", "0,0"},
		{1, 8, "\x1b(0\x1b)A\x0e\x1b7\x1b(B\x1b)B\x0fq#\x1b8q#\x0fq", "q\u00a3\u2500.....", "0,3"},
		{1, 8, "\x1b(0\x1b)A\x0e\x1b8q#\x0eq#", "q#q#....", "0,4"},
		{4, 2, "\x1b[2;3r\x1b[?6h\x1b7\x1b[?6l\x1b8\x1b[Hx", "../x./../..", "1,1"},
		{4, 2, "\x1b7\x1b[2;3r\x1b[?6h\x1b8\x1b[Hx", "x./../../..", "0,1"},
		{4, 2, "\x1b[2;3r\x1b[?6h\x1b8\x1b[Hx", "x./../../..", "0,1"},
		{4, 2, "\x1b[?6h\x1b[4;2H\x1b7\x1b[1;2r\x1b8x", "../../../.x", "3,1!"},
		{2, 4, "ab\x1b[2;2r\x1bc", "..../....", "0,0"},
		{2, 4, "\x1b[4h\x1b[20h\x1b[?6h\x1b[?7l\x1b(0\x0e\x1bcqabcd\re", "qabc/e...", "1,1"},
		{1, 9, "\x1b[4G\x1bH\x1bc\tx", "........x", "0,8!"},
		{2, 4, "ab\x1b7\x1bc\x1b[2;2H\x1b8x", "x.../....", "0,1"},

		// The cursor moved.
		{5, 3, "\x1b[3;2H\x1b[Ax", ".../.x./.../.../...", "1,2"},
		{5, 3, "\x1b[3;2H\x1b[0Ax", ".../.x./.../.../...", "1,2"},
		{5, 3, "\x1b[3;2H\x1b[2Ax", ".x./.../.../.../...", "0,2"},
		{5, 3, "\x1b[3;2H\x1b[99Ax", ".x./.../.../.../...", "0,2"},
		{5, 3, "\x1b[3;2H\x1b[Bx", ".../.../.../.x./...", "3,2"},
		{5, 3, "\x1b[3;2H\x1b[65535Bx", ".../.../.../.../.x.", "4,2"},
		{5, 3, "\x1b[2;4r\x1b[3;2H\x1b[9A", ".../.../.../.../...", "1,1"},
		{5, 3, "\x1b[2;4r\x1b[2;2H\x1b[A", ".../.../.../.../...", "1,1"},
		{5, 3, "\x1b[2;4r\x1b[1;2H\x1b[A", ".../.../.../.../...", "0,1"},
		{5, 3, "\x1b[2;4r\x1b[5;2H\x1b[2A", ".../.../.../.../...", "2,1"},
		{5, 3, "\x1b[2;4r\x1b[5;2H\x1b[9A", ".../.../.../.../...", "1,1"},
		{5, 3, "\x1b[2;4r\x1b[3;2H\x1b[9B", ".../.../.../.../...", "3,1"},
		{5, 3, "\x1b[2;4r\x1b[4;2H\x1b[B", ".../.../.../.../...", "3,1"},
		{5, 3, "\x1b[2;4r\x1b[5;2H\x1b[B", ".../.../.../.../...", "4,1"},
		{5, 3, "\x1b[2;4r\x1b[1;2H\x1b[9B", ".../.../.../.../...", "3,1"},
		{5, 3, "\x1b[3;4r\x1b[1;2H\x1b[9A", ".../.../.../.../...", "0,1"},
		{5, 3, "\x1b[3;4r\x1b[2;2H\x1b[A", ".../.../.../.../...", "0,1"},
		{5, 3, "\x1b[1;2r\x1b[4;2H\x1b[B", ".../.../.../.../...", "4,1"},
		{1, 6, "ab\x1b[Cx", "ab.x..", "0,4"},
		{1, 6, "ab\x1b[2Cx", "ab..x.", "0,5"},
		{1, 6, "ab\x1b[77Cx", "ab...x", "0,5!"},
		{1, 6, "abcdef\x1b[Cx", "abcdex", "0,5!"},
		{1, 6, "abcd\x1b[Dx", "abcx..", "0,4"},
		{1, 6, "abcd\x1b[3Dx", "axcd..", "0,2"},
		{1, 6, "abcd\x1b[9Dx", "xbcd..", "0,1"},
		{1, 6, "abcdef\x1b[Dx", "abcdxf", "0,5"},
		{4, 3, "\x1b[2;3H\x1b[E", ".../.../.../...", "2,0"},
		{4, 3, "\x1b[1;3r\x1b[2;3H\x1b[5E", ".../.../.../...", "2,0"},
		{4, 3, "\x1b[3;3H\x1b[F", ".../.../.../...", "1,0"},
		{4, 3, "\x1b[2;3r\x1b[3;3H\x1b[5F", ".../.../.../...", "1,0"},
		{1, 6, "abcd\x1b[3Gx", "abxd..", "0,3"},
		{1, 6, "abcd\x1b[3`x", "abxd..", "0,3"},
		{1, 6, "abcd\x1b[Gx", "xbcd..", "0,1"},
		{1, 6, "abcd\x1b[0Gx", "xbcd..", "0,1"},
		{1, 6, "abcd\x1b[7Gx", "abcd.x", "0,5!"},
		{3, 3, "\x1b[2;2Hx", ".../.x./...", "1,2"},
		{3, 3, "\x1b[2;2fx", ".../.x./...", "1,2"},
		{3, 3, "\x1b[2Hx", ".../x../...", "1,1"},
		{3, 3, "\x1b[;2Hx", ".x./.../...", "0,2"},
		{3, 3, "\x1b[2;3Ha\x1b[Hx", "x../..a/...", "0,1"},
		{3, 3, "\x1b[9;9Hx", ".../.../..x", "2,2!"},
		{4, 3, "\x1b[2;3r\x1b[?6hx", ".../x../.../...", "1,1"},
		{4, 3, "\x1b[2;3r\x1b[?6h\x1b[2;2Hx", ".../.../.x./...", "2,2"},
		{4, 3, "\x1b[2;3r\x1b[?6h\x1b[3;2Hx", ".../.../.x./...", "2,2"},
		{4, 3, "\x1b[2;3r\x1b[?6h\x1b[9;9fx", ".../.../..x/...", "2,2!"},
		{4, 3, "\x1b[2;3r\x1b[?6h\x1b[?6lx", "x../.../.../...", "0,1"},
		{4, 3, "ab\x1b[3dx", "ab./.../..x/...", "2,2!"},
		{4, 3, "ab\x1b[3d\x1b[dx", "abx/.../.../...", "0,2!"},
		{4, 3, "ab\x1b[9d", "ab./.../.../...", "3,2"},
		{4, 3, "\x1b[2;3r\x1b[?6h\x1b[C\x1b[2dx", ".../.../.x./...", "2,2"},
		{4, 3, "\x1b[2;3r\x1b[?6h\x1b[7dx", ".../.../x../...", "2,1"},
		{1, 20, "\x1b[Ix", "........x...........", "0,9"},
		{1, 20, "\x1b[2Ix", "................x...", "0,17"},
		{1, 20, "\x1b[3Ix", "...................x", "0,19!"},
		{1, 20, "\x1b[18G\x1b[Zx", "................x...", "0,17"},
		{1, 20, "\x1b[18G\x1b[2Zx", "........x...........", "0,9"},
		{1, 20, "\x1b[18G\x1b[3Zx", "x...................", "0,1"},
		{1, 20, "\x1b[9G\x1b[gx\r\ty", "........x.......y...", "0,17"},
		{1, 20, "\x1b[9G\x1b[0g\r\ty", "................y...", "0,17"},
		{1, 20, "\x1b[3g\ty", "...................y", "0,19!"},
		{1, 20, "\x1b[9G\x1b[1g\x1b[2g\x1b[4g\r\ty", "........y...........", "0,9"},

		// Cells erased, inserted, deleted.
		{3, 3, "abcdefghi\x1b[2;2H\x1b[J", "abc/d../...", "1,1"},
		{3, 3, "abcdefghi\x1b[2;2H\x1b[0J", "abc/d../...", "1,1"},
		{3, 3, "abcdefghi\x1b[2;2H\x1b[1J", ".../..f/ghi", "1,1"},
		{3, 3, "abcdefghi\x1b[2;2H\x1b[2J", ".../.../...", "1,1"},
		{3, 3, "abcdefghi\x1b[2;2H\x1b[3J", "abc/def/ghi", "1,1"},
		{3, 3, "abcdefghi\x1b[2;2H\x1b[4J", "abc/def/ghi", "1,1"},
		{3, 3, "abcdefghi\x1b[1;2r\x1b[2;2H\x1b[J", "abc/d../...", "1,1"},
		{3, 3, "abcdefghi\x1b[J", "abc/def/gh.", "2,2!"},
		{3, 3, "abcdefghi\x1b[2;2H\x1b[K", "abc/d../ghi", "1,1"},
		{3, 3, "abcdefghi\x1b[2;2H\x1b[1K", "abc/..f/ghi", "1,1"},
		{3, 3, "abcdefghi\x1b[2;2H\x1b[2K", "abc/.../ghi", "1,1"},
		{3, 3, "abcdefghi\x1b[2;2H\x1b[3K", "abc/def/ghi", "1,1"},
		{1, 5, "\u4e00\u4e00a\x1b[2G\x1b[K", ".....", "0,1"},
		{1, 5, "\u4e00\u4e00a\x1b[3G\x1b[1K", "....a", "0,2"},
		{1, 5, "abcde\x1b[2G\x1b[X", "a.cde", "0,1"},
		{1, 5, "abcde\x1b[2G\x1b[2X", "a..de", "0,1"},
		{1, 5, "abcde\x1b[2G\x1b[9X", "a....", "0,1"},
		{1, 5, "abcde\x1b[2G\x1b[@", "a.bcd", "0,1"},
		{1, 5, "abcde\x1b[2G\x1b[2@", "a..bc", "0,1"},
		{1, 5, "abcde\x1b[2G\x1b[9@", "a....", "0,1"},
		{1, 5, "abcde\x1b[2G\x1b[P", "acde.", "0,1"},
		{1, 5, "abcde\x1b[2G\x1b[2P", "ade..", "0,1"},
		{1, 5, "abcde\x1b[2G\x1b[9P", "a....", "0,1"},
		{1, 5, "abcde\x1b[Xf", "f....", "0,1"},

		// Lines.
		{4, 2, "a\r\nb\r\nc\r\nd\x1b[2;2H\x1b[L", "a./../b./c.", "1,0"},
		{4, 2, "a\r\nb\r\nc\r\nd\x1b[2;2H\x1b[2L", "a./../../b.", "1,0"},
		{4, 2, "a\r\nb\r\nc\r\nd\x1b[2;2H\x1b[M", "a./c./d./..", "1,0"},
		{4, 2, "a\r\nb\r\nc\r\nd\x1b[2;2H\x1b[9M", "a./../../..", "1,0"},
		{4, 2, "a\r\nb\r\nc\r\nd\x1b[2;3r\x1b[2;2H\x1b[L", "a./../b./d.", "1,0"},
		{4, 2, "a\r\nb\r\nc\r\nd\x1b[2;3r\x1b[3;2H\x1b[L", "a./b./../d.", "2,0"},
		{4, 2, "a\r\nb\r\nc\r\nd\x1b[2;3r\x1b[1;2H\x1b[L", "a./b./c./d.", "0,1"},
		{4, 2, "a\r\nb\r\nc\r\nd\x1b[2;3r\x1b[4;2H\x1b[M", "a./b./c./d.", "3,1"},
		{4, 2, "a\r\nb\r\nc\r\nd\x1b[2;3r\x1b[4;2Hx\x1b[M", "a./b./c./dx", "3,1!"},
		{4, 2, "a\r\nb\r\nc\r\nd\x1b[2;2H\x1b[S", "b./c./d./..", "1,1"},
		{4, 2, "a\r\nb\r\nc\r\nd\x1b[2;2H\x1b[2T", "../../a./b.", "1,1"},
		{4, 2, "a\r\nb\r\nc\r\nd\x1b[2;3r\x1b[S", "a./c./../d.", "0,0"},
		{4, 2, "a\r\nb\r\nc\r\nd\x1b[2;3r\x1b[9T", "a./../../d.", "0,0"},
		{4, 2, "ab\x1b[T", "../ab/../..", "0,1!"},

		// Margins: the cursor goes home, if they may be.
		{4, 2, "a\x1b[2;3r", "a./../../..", "0,0"},
		{4, 2, "a\x1b[3;2r", "a./../../..", "0,1"},
		{4, 2, "a\x1b[2;2r", "a./../../..", "0,1"},
		{4, 2, "a\x1b[4r", "a./../../..", "0,1"},
		{4, 2, "a\x1b[3r", "a./../../..", "0,0"},
		{4, 2, "ab\x1b[9;9r", "ab/../../..", "0,1!"},
		{1, 2, "a\x1b[r", "a.", "0,1"},
		{4, 2, "\x1b[?6h\x1b[2;3rx", "../x./../..", "1,1"},

		// The other screen.
		{2, 4, "ab\x1b[?47h", "..../....", "0,2"},
		{2, 4, "ab\x1b[?47hx\x1b[?47l", "ab../....", "0,3"},
		{2, 4, "ab\x1b[?1047hx\x1b[?47l\x1b[?1047h", "..../....", "0,3"},
		{2, 4, "ab\x1b[?1049hx\r\ny\x1b[?1049l", "ab../....", "0,2"},
		{2, 4, "ab\x1b[?1049hx\x1b[?1049hy\x1b[?1049l", "ab../....", "0,2"},
		{2, 4, "ab\x1b[?1049hx\x1b[?1049h", "..x./....", "0,3"},
		{2, 4, "ab\x1b[?1049l", "ab../....", "0,2"},
		{2, 4, "ab\x1b7c\x1b[?47h\x1b8x", "x.../....", "0,1"},
		{2, 4, "ab\x1b7c\x1b[?47hxy\x1b7\x1b[?47l\x1b8z", "abz./....", "0,3"},
		{2, 4, "ab\x1b[?47hcd\x1b7\x1b[?47l\x1b[?47h\x1b8z", "z.../....", "0,1"},
		{2, 4, "ab\x1b[?47hx\x1b[?1049lz", "zb../....", "0,1"},
		{2, 4, "ab\x1b[?1049hx\x1bcy", "y.../....", "0,1"},
		{2, 4, "abcd\x1b[?47h", "..../....", "0,3"},
		{2, 4, "ab\x1b[?1048h\r\nc\x1b[?1048lx", "abx./c...", "0,3"},
		{4, 2, "\x1b[2;3r\x1b[?47h\x1b[9;1H\n\x1b[?47l\x1b[3;1Hx\ny", "../x./.y/..", "2,1!"},
	} {
		g := run(t, e.rows, e.cols, e.text).Grid()
		if screenOf(g) != e.cells || cursorOf(g) != e.cursor {
			t.Errorf("%dx%d %q: %s at %s, not %s at %s", e.rows, e.cols, e.text, screenOf(g), cursorOf(g), e.cells, e.cursor)
		}
	}
}

// TestEvents: all that is told of what happened, outright: kinds, lines' ids and columns, and what else there is.
func TestEvents(t *testing.T) {
	for _, e := range []struct {
		rows, cols int
		text, told string
	}{
		{2, 4, "", ""},
		{2, 4, "ab", "print 1:0 #0 61 blank; print 1:1 #1 62 blank"},
		{2, 4, "ab\rc", "print 1:0 #0 61 blank; print 1:1 #1 62 blank; straight 1:0; print 1:0 #2 63"},
		{2, 4, "\u4e00", "print 1:0 #0 4e00 wide blank"},
		{2, 1, "\u4e00", "print 1:0 #0 fffd blank"},
		{2, 4, "abc\u4e00", "print 1:0 #0 61 blank; print 1:1 #1 62 blank; print 1:2 #2 63 blank; straight 2:0 fresh wrap; print 2:0 #3 4e00 wide blank"},
		{1, 2, "abc", "print 1:0 #0 61 blank; print 1:1 #1 62 blank; straight 2:0 fresh wrap; print 2:0 #2 63 blank"},
		{2, 2, "\nx\x1b[Habc", "straight 2:0 fresh; print 2:0 #0 78 blank; other 1:0; print 1:0 #1 61 blank; print 1:1 #2 62 blank; straight 2:0 wrap; print 2:0 #3 63"},
		{1, 3, "\x1b[?7labc\u4e00", "print 1:0 #0 61 blank; print 1:1 #1 62 blank; print 1:2 #2 63 blank; print 1:1 #3 4e00 wide"},
		{1, 3, "\x1b[?7l  \u4e00", "print 1:0 #0 20 blank; print 1:1 #1 20 blank; print 1:1 #2 4e00 wide blank"},
		{1, 3, "\x1b(0q_\x0f", "print 1:0 #0 2500 blank; print 1:1 #1 20 blank"},
		{1, 3, "\x1b(A#", "print 1:0 #0 a3 blank"},

		// Blank: ahead of what Insert and the print do.
		{1, 3, "abc\r\x1b[4hx", "print 1:0 #0 61 blank; print 1:1 #1 62 blank; print 1:2 #2 63 blank; straight 1:0; print 1:0 #3 78"},
		{1, 3, "\x1b[3Ga\r\x1b[4hx", "other 1:2; print 1:2 #0 61 blank; straight 1:0; print 1:0 #1 78"},
		{1, 3, "a\x1b[3Gb\x1b[2Gc", "print 1:0 #0 61 blank; other 1:2; print 1:2 #1 62 blank; other 1:1; print 1:1 #2 63"},
		{1, 3, "a\x1b[2G\u0301\x1b[Gb", "print 1:0 #0 61 blank; other 1:1; join 1:0 #1 301; other 1:0; print 1:0 #2 62"},
		{1, 3, "\x1b[2G\u0301\x1b[Gb", "other 1:1; join 1:0 #0 301; other 1:0; print 1:0 #1 62"},

		// Joins.
		{1, 3, "\u0301", ""},
		{1, 3, "a\u0301\u0302", "print 1:0 #0 61 blank; join 1:0 #1 301 last; join 1:0 #2 302 last"},
		{1, 3, "ab\x1b[m\u0301", "print 1:0 #0 61 blank; print 1:1 #1 62 blank; join 1:1 #2 301 last"},
		{1, 3, "ab\x08\u0301\u0302", "print 1:0 #0 61 blank; print 1:1 #1 62 blank; other 1:1; join 1:0 #2 301; join 1:0 #3 302 last"},
		{1, 3, "a\u0301\u0302\u0303\u0304\u0305b", "print 1:0 #0 61 blank; join 1:0 #1 301 last; join 1:0 #2 302 last; join 1:0 #3 303 last; join 1:0 #4 304 last; join 1:0 #5 305 last; print 1:1 #6 62 blank"},
		{1, 4, "a\u4e00\u0301", "print 1:0 #0 61 blank; print 1:1 #1 4e00 wide blank; join 1:1 #2 301 last"},
		{1, 2, "\u4e00\u0301", "print 1:0 #0 4e00 wide blank; join 1:0 #1 301 last"},
		{1, 2, "ab\u0301", "print 1:0 #0 61 blank; print 1:1 #1 62 blank; join 1:1 #2 301 last"},
		{1, 2, "\x1b[?7lab\u0301", "print 1:0 #0 61 blank; print 1:1 #1 62 blank; join 1:0 #2 301"},
		{2, 3, "a\nb\x1b[A\u0301", "print 1:0 #0 61 blank; straight 2:1 fresh; print 2:1 #1 62 blank; other 1:2; join 1:1 #2 301"},
		{1, 3, "a\u0301\x1b[1G\x1b[1C\u0302", "print 1:0 #0 61 blank; join 1:0 #1 301 last; other 1:0; other 1:1; join 1:0 #2 302"},
		{1, 1, "\u0301\u4e00\u0301", "print 1:0 #0 fffd blank; join 1:0 #1 301 last"},

		// Controls: what comes is told, whether it changes something or not.
		{1, 3, "\x08", "other 1:0"},
		{1, 9, "\t\t", "straight 1:8; straight 1:8"},
		{2, 3, "a\n\n", "print 1:0 #0 61 blank; straight 2:1 fresh; straight 3:1 fresh"},
		{2, 3, "a\x0b\x1b[A\x0c", "print 1:0 #0 61 blank; straight 2:1 fresh; other 1:1; straight 2:1 fresh"},
		{2, 3, "a\nb\x1b[Hc\n", "print 1:0 #0 61 blank; straight 2:1 fresh; print 2:1 #1 62 blank; other 1:0; print 1:0 #2 63; straight 2:1"},
		{3, 3, "\x1b[1;2r\x1b[3;1Hx\n", "other 1:0; other 3:0; print 3:0 #0 78 blank; straight 3:1"},
		{3, 3, "\x1b[1;2r\x1b[3;1H\n", "other 1:0; other 3:0; straight 3:0 fresh"},
		{2, 3, "\x1b[20ha\n", "print 1:0 #0 61 blank; straight 2:0 fresh"},
		{1, 3, "\r", "straight 1:0"},
		{1, 3, "\x0e\x0f\x1bH\u0088\x1b7", ""},
		{2, 3, "a\x1bD\u0084", "print 1:0 #0 61 blank; other 2:1; other 3:1"},
		{2, 3, "a\x1bE\u0085", "print 1:0 #0 61 blank; other 2:0; other 3:0"},
		{2, 3, "a\x1bM\u008d", "print 1:0 #0 61 blank; other 3:1; other 4:1"},
		{2, 3, "\n\x1bM", "straight 2:0 fresh; other 1:0"},
		{2, 3, "a\x1b8", "print 1:0 #0 61 blank; other 1:0"},
		{2, 3, "a\x1b7\n\x1b8", "print 1:0 #0 61 blank; straight 2:1 fresh; other 1:1"},
		{2, 3, "a\x1bcb", "print 1:0 #0 61 blank; reset 3:0; print 3:0 #1 62 blank"},
		{1, 1, "\x1bc", "reset 2:0"},
		{1, 1, "\x1bc\x1bc", "reset 2:0; reset 3:0"},
		{1, 1, "a\x1bc\u0301", "print 1:0 #0 61 blank; reset 2:0"},
		{3, 3, "\x1b[2;3r\x1b[?6h\x1b[3;3H\x1bc", "other 1:0; other 2:0; other 3:2; reset 4:0"},
		{2, 3, "\x1b[?47h\x1b[2;2H\x1bc\x1b[?47l", "other 3:0; other 4:1; reset 5:0"},
		{2, 3, "a\x1b(0\x1b)A\x1b(B", "print 1:0 #0 61 blank"},

		// Control functions.
		{3, 3, "\x1b[A\x1b[B\x1b[C\x1b[D\x1b[E\x1b[F", "other 1:0; other 2:0; other 2:1; other 2:0; other 3:0; other 2:0"},
		{3, 3, "\x1b[2G\x1b[3`\x1b[2;2H\x1b[3;3f\x1b[1d\x1b[I\x1b[Z", "other 1:1; other 1:2; other 2:1; other 3:2; other 1:2; other 1:2; other 1:0"},
		{3, 3, "\x1b[J\x1b[1J\x1b[2J\x1b[3J\x1b[4J", "other 1:0; other 1:0; other 1:0"},
		{3, 3, "\x1b[K\x1b[1K\x1b[2K\x1b[3K\x1b[4K", "other 1:0; other 1:0; other 1:0"},
		{3, 3, "\x1b[2;2H\x1b[X\x1b[@\x1b[P", "other 2:1; other 2:1; other 2:1; other 2:1"},
		{3, 3, "\x1b[2;2H\x1b[L\x1b[2G\x1b[M", "other 2:1; other 4:0; other 4:1; other 2:0"},
		{3, 3, "\x1b[1;2r\x1b[3;2H\x1b[L\x1b[M", "other 1:0; other 3:1"},
		{3, 3, "\x1b[2;2H\x1b[S\x1b[T", "other 2:1; other 3:1; other 2:1"},
		{3, 3, "\x1b[2;2H\x1b[r\x1b[2;1r\x1b[3r", "other 2:1; other 1:0"},
		{3, 3, "\x1b[g\x1b[3g\x1b[m\x1b[1m\x1b[4;20h\x1b[4;20l\x1b[5n\x1b[6n\x1b[c", ""},

		// Private modes.
		{3, 3, "\x1b[?1;7;25;2004h\x1b[?1;7;25;2004l", ""},
		{3, 3, "\x1b[2;3r\x1b[?6h\x1b[?6l", "other 1:0; other 2:0; other 1:0"},
		{3, 3, "\x1b[?6;6h", "other 1:0; other 1:0"},
		{2, 3, "\x1b[2C\x1b[?47h\x1b[?47h\x1b[?47l\x1b[?47l", "other 1:2; other 3:2; other 1:2"},
		{2, 3, "\x1b[2C\x1b[?1049h\x1b[?1049h\x1b[H\x1b[?1049l\x1b[?1049l", "other 1:2; other 3:2; other 3:0; other 1:0; other 1:2"},
		{2, 3, "\x1b[2C\x1b[?1048h\x1b[?1048l", "other 1:2; other 1:2"},
		{2, 3, "\x1b[?1049;6;47l\x1b[?1049;6;47h", "other 1:0; other 3:0; other 3:0"},

		// Nothing.
		{2, 3, "\a\x00\u0080\u0099\x1bZ\x1b#8\x1b((0\x1b[!p\x1b[?J\x1b[>c\x1b[1 q\x1b]0;a\a\x1bP1q\x1b\\", ""},
	} {
		if got := say(run(t, e.rows, e.cols, e.text).Journal()); got != e.told {
			t.Errorf("%dx%d %q:\n%s\nnot\n%s", e.rows, e.cols, e.text, got, e.told)
		}
	}
}

// TestReplies: what is sent to the host, outright.
func TestReplies(t *testing.T) {
	for _, e := range []struct{ text, sent string }{
		{"abc", ""},
		{"\x1b[5n", "\x1b[0n"},
		{"\x1b[6n", "\x1b[1;1R"},
		{"\x1b[3;4H\x1b[6n", "\x1b[3;4R"},
		{"abcde\x1b[6n", "\x1b[1;5R"},
		{"\x1b[2;3r\x1b[3;2H\x1b[6n", "\x1b[3;2R"},
		{"\x1b[2;3r\x1b[?6h\x1b[6n\x1b[2;2H\x1b[6n", "\x1b[1;1R\x1b[2;2R"},
		{"\x1b[?6h\x1b7\x1b[3;4r\x1b8\x1b[6n", "\x1b[1;1R"},
		{"\x1b[c", "\x1b[?62;22c"},
		{"\x1b[0c\x1b[0;1c", "\x1b[?62;22c\x1b[?62;22c"},
		{"\x1b[1c\x1b[n\x1b[0n\x1b[4n\x1b[7n\x1b[?6n\x1b[?5n\x1b[>c\x1b[=c\x1b[?c", ""},
		{"\x1b[5;6n", "\x1b[0n"},
		{"\x1b[5n\x1bc\x1b[c", "\x1b[0n\x1b[?62;22c"},
	} {
		if got := string(run(t, 4, 5, e.text).Replies()); got != e.sent {
			t.Errorf("%q: %q, not %q", e.text, got, e.sent)
		}
	}
	x := run(t, 4, 5, "")
	for _, n := range []int{-1, -5, 65536 + 5, 1<<32 + 5} {
		x.Do(csi('n', n))
	}
	x.Do(csi('c', -7))
	if got := string(x.Replies()); got != "\x1b[?62;22c" {
		t.Errorf("%q", got)
	}
}

// TestModesTold: which modes are on, outright.
func TestModesTold(t *testing.T) {
	first := api.Modes{AutoWrap: true, Visible: true}
	with := func(change func(m *api.Modes)) api.Modes {
		m := first
		change(&m)
		return m
	}
	for _, e := range []struct {
		text string
		want api.Modes
	}{
		{"", first},
		{"\x1b[4h", with(func(m *api.Modes) { m.Insert = true })},
		{"\x1b[20h", with(func(m *api.Modes) { m.NewLine = true })},
		{"\x1b[?1h", with(func(m *api.Modes) { m.CursorKeys = true })},
		{"\x1b[?6h", with(func(m *api.Modes) { m.Origin = true })},
		{"\x1b[?7l", with(func(m *api.Modes) { m.AutoWrap = false })},
		{"\x1b[?25l", with(func(m *api.Modes) { m.Visible = false })},
		{"\x1b[?47h", with(func(m *api.Modes) { m.Alternate = true })},
		{"\x1b[?1047h", with(func(m *api.Modes) { m.Alternate = true })},
		{"\x1b[?1049h", with(func(m *api.Modes) { m.Alternate = true })},
		{"\x1b[?2004h", with(func(m *api.Modes) { m.Paste = true })},
		{"\x1b[4;20h\x1b[?1;6;7;25;1049;2004h", api.Modes{Insert: true, NewLine: true, CursorKeys: true, Origin: true, AutoWrap: true, Visible: true, Alternate: true, Paste: true}},
		{"\x1b[4;20h\x1b[?1;6;7;25;1049;2004h\x1b[4;20l\x1b[?1;7;25;1049;2004l", api.Modes{Origin: true}},
		{"\x1b[4;20h\x1b[?1;6;7;25;47;2004h\x1b[4;20l\x1b[?1;6;7;25;47;2004l", api.Modes{}},
		{"\x1b[?4;20h\x1b[1;6;25;47;1047;1049;2004h\x1b[7l", first},
		{"\x1b[4;20h\x1b[?1;6;7;25;1049;2004h\x1bc", first},
		{"\x1b[?6h\x1b7\x1b[?6l\x1b8", with(func(m *api.Modes) { m.Origin = true })},
		{"\x1b[?6;7l\x1b7\x1b[?6;7h\x1b8", first},
		{"\x1b[?6h\x1b8", first},
		{"\x1b[?1047h\x1b[?47l", first},
		{"\x1b[?6;1049h\x1b[?6;1049l", with(func(m *api.Modes) { m.Origin = true })},
		{"\x1b[?1048h\x1b[?1048l", first},
		{"\x1b[h\x1b[0h\x1b[?h\x1b[?0h\x1b[?2l", first},
	} {
		if got := run(t, 3, 5, e.text).Modes(); got != e.want {
			t.Errorf("%q: %+v, not %+v", e.text, got, e.want)
		}
	}
}

// TestGridTold: what a grid tells beside cells and the cursor, outright.
func TestGridTold(t *testing.T) {
	for _, e := range []struct{ text, want string }{
		{"", "[1 2 3 4] 0 3 false true {0 0 0}"},
		{"\x1b[2;3r", "[1 2 3 4] 1 2 false true {0 0 0}"},
		{"\x1b[2;9r", "[1 2 3 4] 1 3 false true {0 0 0}"},
		{"\x1b[2r", "[1 2 3 4] 1 3 false true {0 0 0}"},
		{"\x1b[;2r", "[1 2 3 4] 0 1 false true {0 0 0}"},
		{"\x1b[2;3r\x1b[r", "[1 2 3 4] 0 3 false true {0 0 0}"},
		{"\x1b[2;3r\x1b[3;3r\x1b[4r", "[1 2 3 4] 1 2 false true {0 0 0}"},
		{"\x1b[2;3r\x1b[S", "[1 3 5 4] 1 2 false true {0 0 0}"},
		{"\x1b[2S", "[3 4 5 6] 0 3 false true {0 0 0}"},
		{"\x1b[2T", "[5 6 1 2] 0 3 false true {0 0 0}"},
		{"\x1bM", "[5 1 2 3] 0 3 false true {0 0 0}"},
		{"\x1b[?25l", "[1 2 3 4] 0 3 true true {0 0 0}"},
		{"\x1b[?25l\x1b[?25h", "[1 2 3 4] 0 3 false true {0 0 0}"},
		{"\x1b[2;3r\x1b[?47h", "[5 6 7 8] 0 3 false false {0 0 0}"},
		{"\x1b[2;3r\x1b[?47h\x1b[1;2r\x1b[?47l", "[1 2 3 4] 1 2 false true {0 0 0}"},
		{"\x1b[?47h\x1b[?47l\x1b[?47h", "[9 10 11 12] 0 3 false false {0 0 0}"},
		{"\x1b[2;3r\x1b[?47h\x1b[?25l\x1b[1m\x1bc", "[9 10 11 12] 0 3 false true {0 0 0}"},
		{"\x1b[1;31;44m", "[1 2 3 4] 0 3 false true {2 5 1}"},
		{"\x1b[1;31;44m\x1b[m", "[1 2 3 4] 0 3 false true {0 0 0}"},
		{"\x1b[1;31;44m\x1b[22;39m", "[1 2 3 4] 0 3 false true {0 5 0}"},
		{"\x1b[31m\x1b7\x1b[32m\x1b8", "[1 2 3 4] 0 3 false true {2 0 0}"},
		{"\x1b[31m\x1b8", "[1 2 3 4] 0 3 false true {0 0 0}"},
		{"\x1b[31m\x1b[?47h", "[5 6 7 8] 0 3 false false {2 0 0}"},
		{"\x1b[31m\x1b[?1049h\x1b[32m\x1b[?1049l", "[1 2 3 4] 0 3 false true {2 0 0}"},
	} {
		g := run(t, 4, 3, e.text).Grid()
		if got := fmt.Sprint(g.IDs, g.Top, g.Bottom, g.Hidden, g.Main, g.A); got != e.want {
			t.Errorf("%q: %s, not %s", e.text, got, e.want)
		}
	}
}

// grounds are the grounds of cells: - for the default one.
func grounds(g api.Grid) string {
	var rows []string
	for _, cells := range g.Cells {
		var b strings.Builder
		for _, c := range cells {
			if c.A.Bg == 0 {
				b.WriteByte('-')
			} else {
				fmt.Fprint(&b, c.A.Bg)
			}
		}
		rows = append(rows, b.String())
	}
	return strings.Join(rows, "/")
}

// TestGrounds: how cells that come look, outright.
func TestGrounds(t *testing.T) {
	for _, e := range []struct{ text, want string }{
		{"", "---/---/---"},
		{"\x1b[44ma\x1b[42mb", "53-/---/---"},
		{"\x1b[44m\x1b[2;2H\x1b[J", "---/-55/555"},
		{"\x1b[44m\x1b[2;2H\x1b[1J", "555/55-/---"},
		{"\x1b[44m\x1b[2J", "555/555/555"},
		{"\x1b[44m\x1b[2;2H\x1b[K", "---/-55/---"},
		{"\x1b[44m\x1b[2;2H\x1b[1K", "---/55-/---"},
		{"\x1b[44m\x1b[2;2H\x1b[2K", "---/555/---"},
		{"\x1b[44m\x1b[2;2H\x1b[X", "---/-5-/---"},
		{"\x1b[44m\x1b[2;2H\x1b[@", "---/-5-/---"},
		{"\x1b[44m\x1b[2;2H\x1b[P", "---/--5/---"},
		{"\x1b[44m\x1b[2;2H\x1b[L", "---/555/---"},
		{"\x1b[44m\x1b[2;2H\x1b[M", "---/---/555"},
		{"\x1b[44m\x1b[S", "---/---/555"},
		{"\x1b[44m\x1b[2T", "555/555/---"},
		{"\x1b[44m\x1bM", "555/---/---"},
		{"\x1b[44m\n\n\n", "---/---/555"},
		{"\x1b[44m\x1b[4h\x1b[41m\u4e00", "22-/---/---"},
		{"\x1b[44m\x1b[?47h", "---/---/---"},
		{"\x1b[2J\x1b[44m\x1bc", "---/---/---"},
	} {
		if got := grounds(run(t, 3, 3, e.text).Grid()); got != e.want {
			t.Errorf("%q: %s, not %s", e.text, got, e.want)
		}
	}
	g := run(t, 1, 3, "\x1b[1;31;44ma\x1b[K").Grid()
	if g.Cells[0][0].A != (api.Attr{Fg: 2, Bg: 5, Flags: api.Bold}) || g.Cells[0][1].A != (api.Attr{Bg: 5}) {
		t.Error(g.Cells[0])
	}
}

// TestBackTold: the scrollback, outright.
func TestBackTold(t *testing.T) {
	for _, e := range []struct {
		back int
		text string
		want []string
	}{
		{9, "a\r\nb", nil},
		{9, "a\r\nb\r\nc\r\nd", []string{"1 a.", "2 b."}},
		{1, "a\r\nb\r\nc\r\nd", []string{"2 b."}},
		{0, "a\r\nb\r\nc\r\nd", nil},
		{9, "abcdefgh", []string{"1 ab", "2 cd"}},
		{9, "a\r\nb\x1b[9S", []string{"1 a.", "2 b."}},
		{9, "a\r\nb\x1bD\x1bE", []string{"1 a.", "2 b."}},
		{9, "a\r\nb\x1b[T\x1b[H\x1b[M\x1bM", nil},
		{9, "a\r\nb\r\nc\x1b[3J", nil},
		{9, "a\r\nb\r\nc\x1b[3J\r\nd", []string{"2 b."}},
		{9, "a\r\nb\r\nc\x1bc", nil},
		{9, "a\r\nb\r\nc\x1bcd\r\ne\r\nf", []string{"4 d."}},
		{9, "a\r\nb\r\nc\x1b[?1049hx\r\ny\r\nz", []string{"1 a."}},
		{9, "a\r\nb\r\nc\x1b[?1049h\x1b[3J", nil},
	} {
		x, _ := emu.New(2, 2, e.back)
		do(x, e.text)
		var got []string
		for _, l := range x.Back() {
			got = append(got, fmt.Sprint(l.ID, " ", drawn(l.Cells)))
		}
		if !slices.Equal(got, e.want) {
			t.Errorf("%d, %q: %q, not %q", e.back, e.text, got, e.want)
		}
	}
}
