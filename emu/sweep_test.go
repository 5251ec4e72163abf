package emu_test

import (
	"fmt"
	"math"
	"slices"
	"testing"

	"tactile/api"
)

// states are texts that bring a terminal to where acts are tried; those of the first list stand ahead of one of the second.
func states() (all []string) {
	written := []string{"abcdefghijklm\x1b[2;2H", "a\u4e00\u4e00b\u0301\u4e00c\r\n\u4e00d\u0301\u4e00\r\n\n"}
	ways := []string{
		"",
		"\x1b[1;44m",
		"\x1b[2;3r",
		"\x1b[1;2r\x1b[9;3H",
		"\x1b[2;3r\x1b[9;2H\x1b[33;45m",
		"\x1b[2;4r\x1b[?6h\x1b[2;2H",
		"\x1b[?6h\x1b7\x1b[3;4r\x1b8",
		"\x1b[?6h\x1b[9;9H\x1b7\x1b[1;2r\x1b8",
		"\x1b[?7l",
		"\x1b[4h\x1b[H",
		"\x1b[20h",
		"\x1b[H\x1b[99Gz",
		"\x1b[2;2H\x1b[99Gz\x1b[?7l",
		"\x1b[99;99Hz\x1b[42m",
		"\x1b[99Gz\x1b7\x1b[H",
		"\x1b[2;2H\x1b[5;46m\x1b(0\x1b)A\x0e\x1b7\x1b[0m\x1b[H\x0f",
		"\x1b(0",
		"\x1b)0\x0e",
		"\x1b[3G\x1bH\x1b[6G\x1bH\x1b[2G",
		"\x1b[3g\x1b[4G",
		"\x1b[?25l\x1b[?1h\x1b[?2004h",
		"\x1b[2;2H\x1b7\x1b[?47hxy",
		"\x1b[2;3r\x1b[3;2H\x1b[41m\x1b[?1049hopq\r\nrst\x1b[2;1H",
		"\x1b[?1049h\x1b[1;3r\x1b[2;2H\x1b[35m\x1b7\x1b[H",
		"\n\n\n\n\n\n\nk\n\nl\x1b[2;2H",
	}
	for _, w := range written {
		for _, way := range ways {
			all = append(all, w+way)
		}
	}
	for row := 1; row <= 4; row++ {
		for col := 1; col <= 5; col++ {
			all = append(all, fmt.Sprintf("%s\x1b[2;3r\x1b[%d;%dH", written[1], row, col))
		}
	}
	return all
}

// few are the sizes that matter most, many all that acts are tried on.
var (
	few  = [][2]int{{1, 1}, {4, 5}, {5, 18}}
	many = append([][2]int{{1, 2}, {2, 1}, {3, 2}}, few...)
)

// sweep tries acts, each alone, in all states on these sizes.
func sweep(t *testing.T, sizes [][2]int, all []api.Act) {
	t.Helper()
	for _, state := range states() {
		t.Run("", func(t *testing.T) {
			t.Parallel()
			first, look := acts(state), acts(probe)
			for _, size := range sizes {
				for _, x := range all {
					d := made(t, size[0], size[1], 3)
					d.do(first...)
					d.do(x)
					d.probed(look)
				}
			}
		})
	}
}

// print, exec, esc and csi are acts.
func print(r int32) api.Act { return api.Act{Kind: api.ActPrint, R: r} }
func exec(r int32) api.Act  { return api.Act{Kind: api.ActExec, R: r} }
func esc(inter string, final int32) api.Act {
	return api.Act{Kind: api.ActEsc, Inter: []int32(inter), Final: final}
}
func csi(final int32, l ...int) api.Act { return api.Act{Kind: api.ActCsi, Params: l, Final: final} }
func private(final int32, l ...int) api.Act {
	return api.Act{Kind: api.ActCsi, Private: '?', Params: l, Final: final}
}

func TestEachPrint(t *testing.T) {
	var all []api.Act
	for _, r := range []int32{
		' ', 'a', '#', '_', '`', 'q', '~', 0xa0, 0xe4, 0x4e00, 0x3000, 0x1f600, 0xfffd, 0x10ffff, 0x301, 0x200b, 0xe01ef,
		7, 10, 0x7f, 0x9f, 0xd800, 0xdfff, -1, math.MinInt32, 0x110000, math.MaxInt32,
	} {
		all = append(all, print(r))
	}
	sweep(t, many, all)
}

func TestEachControl(t *testing.T) {
	var all []api.Act
	for _, r := range []int32{8, 9, 10, 11, 12, 13, 14, 15, 0x84, 0x85, 0x88, 0x8d} {
		all = append(all, exec(r))
	}
	sweep(t, many, all)
}

func TestEachEscape(t *testing.T) {
	all := []api.Act{esc("", '7'), esc("", '8'), esc("", 'D'), esc("", 'E'), esc("", 'H'), esc("", 'M'), esc("", 'c')}
	for _, inter := range []string{"(", ")"} {
		for _, final := range "0AB" {
			all = append(all, esc(inter, final))
		}
	}
	sweep(t, many, all)
}

// TestEachFinal: each with no number, and with numbers about those of the screen, of what was not told, and far off.
func TestEachFinal(t *testing.T) {
	far := []int{math.MinInt, -1, 65535, 65536, math.MaxInt}
	var all []api.Act
	for _, final := range "ABCDEFG`HfdIZJKX@PLMSTrgnc" {
		all = append(all, csi(final), csi(final, 9, 9))
		for n := range 5 {
			all = append(all, csi(final, n))
		}
		for _, n := range far {
			all = append(all, csi(final, n))
		}
	}
	for _, final := range "Hr" {
		for n := range 5 {
			for m := range 6 {
				all = append(all, csi(final, n, m))
			}
		}
		for _, n := range far {
			all = append(all, csi(final, 2, n), csi(final, n, 3))
		}
	}
	sweep(t, few, all)
}

func TestEachMode(t *testing.T) {
	var all []api.Act
	for _, final := range "hl" {
		for _, n := range []int{4, 20} {
			all = append(all, csi(final, n))
		}
		for _, n := range []int{1, 6, 7, 25, 47, 1047, 1048, 1049, 2004} {
			all = append(all, private(final, n))
		}
		all = append(all,
			csi(final, 4, 20), csi(final, 5, 20, 0, 4, 4),
			private(final, 7, 4, 25), private(final, 6, 1049, 6), private(final, 1049, 1049, 47), private(final, 1047, 1048), private(final, 1048, 6, 2004, 1), private(final, 6, 6))
	}
	sweep(t, many, all)
}

func TestEachLook(t *testing.T) {
	var all []api.Act
	for _, l := range [][]int{nil, {}, {0}, {1}, {1, 31, 44}, {38, 5, 200}, {48, 2, 1, 2, 3}, {38, 5, 300, 4}, {-1}, {7, 0}, {65536}, {1, -5, 32}} {
		all = append(all, csi('m', l...))
	}
	sweep(t, few, all)
}

// nothing are acts that are none.
func nothing() (all []api.Act) {
	for kind := range 256 {
		if kind < 1 || kind > 4 {
			all = append(all, api.Act{Kind: uint8(kind), R: 'a', Final: 'A', Params: []int{1}}, api.Act{Kind: uint8(kind), R: 10, Final: 'c'})
		}
	}
	all = append(all, api.Act{Kind: api.ActOsc, Text: []int32("0;title")}, api.Act{Kind: api.ActDcs, Params: []int{1}, Final: 'q'})
	does := []int32{8, 9, 10, 11, 12, 13, 14, 15, 0x84, 0x85, 0x88, 0x8d}
	for r := int32(-300); r < 700; r++ {
		if !slices.Contains(does, r) {
			all = append(all, exec(r))
		}
	}
	for r := int32(-300); r < 700; r++ {
		if !slices.Contains([]int32("78DEHMc"), r) {
			all = append(all, esc("", r))
		}
		if !slices.Contains([]int32("0AB"), r) {
			all = append(all, esc("(", r), esc(")", r))
		}
		if !slices.Contains([]int32("ABCDEFG`HfdIZJKX@PLMSTrgmhlnc"), r) {
			all = append(all, csi(r), csi(r, 1), csi(r, 2, 3))
		}
		if r != 'h' && r != 'l' {
			all = append(all, private(r), private(r, 1), private(r, 6), private(r, 1049))
		}
	}
	return all
}

// withMore are acts that would do something, but for what stands with them.
func withMore() (all []api.Act) {
	for _, final := range "0AB78DEHMc" {
		for _, inter := range []string{"((", "()", ")(", " ", "#", "*", "(#", "#(", "\x00"} {
			all = append(all, esc(inter, final))
		}
	}
	for _, final := range "ABCDEFG`HfdIZJKX@PLMSTrgmhlnc" {
		for _, inter := range []string{" ", "!", "$", "(", "((", "\x00"} {
			for _, from := range []int32{0, '?'} {
				all = append(all, api.Act{Kind: api.ActCsi, Private: from, Params: []int{6, 3}, Inter: []int32(inter), Final: final})
			}
		}
		for _, from := range []int32{'<', '=', '>', 1, -1, 'h', math.MaxInt32} {
			all = append(all, api.Act{Kind: api.ActCsi, Private: from, Params: []int{6}, Final: final})
		}
	}
	for _, final := range "hl" {
		for _, n := range []int{0, 1, 3, 6, 7, 21, 25, 47, 1047, 1048, 1049, 2004, -4, -20, math.MinInt, math.MaxInt, 65536 + 4, 1<<32 + 4} {
			all = append(all, csi(final, n))
		}
		for _, n := range []int{0, 4, 20, 2, 5, 8, 1046, 1050, 2003, -1, -6, -1049, math.MinInt, math.MaxInt, 65536 + 6, 1<<32 + 6} {
			all = append(all, private(final, n))
		}
		all = append(all, csi(final), private(final), private(final, 0, 0))
	}
	return all
}

// TestNothing: acts that are nothing change nothing, and tell of nothing.
func TestNothing(t *testing.T) {
	all := append(nothing(), withMore()...)
	for _, size := range [][2]int{{1, 1}, {4, 5}} {
		for _, state := range states() {
			d := made(t, size[0], size[1], 3, state)
			d.hold()
			before := d.x.Grid()
			for _, x := range all {
				if err := d.x.Do(x); err != api.OK {
					t.Fatal(state, x, err)
				}
				if e, b := d.x.Journal(), d.x.Replies(); len(e) != 0 || len(b) != 0 {
					t.Fatalf("%q, %+v: %v, %q", state, x, say(e), b)
				}
			}
			if !sameGrid(d.x.Grid(), before) {
				t.Fatalf("%q: %s", state, show(d.x.Grid()))
			}
			d.probed(acts(probe))
		}
	}
}

// TestWhatDoesNotCount: fields of an act that are not its kind's.
func TestWhatDoesNotCount(t *testing.T) {
	noise := func(x api.Act) api.Act {
		x.Text = []int32("text")
		switch x.Kind {
		case api.ActPrint, api.ActExec:
			x.Private, x.Params, x.Inter, x.Final = '?', []int{3, 4}, []int32("("), 'A'
		case api.ActEsc:
			x.R, x.Private, x.Params = 'x', '?', []int{3, 4}
		case api.ActCsi:
			x.R = 10
		}
		return x
	}
	for _, state := range states() {
		d := made(t, 4, 6, 3, state)
		for _, x := range []api.Act{print('a'), print(0x301), exec(10), exec(14), esc("", 'M'), esc("(", '0'), print('q'), csi('A', 2), private('l', 6, 7)} {
			d.do(noise(x))
			d.hold()
		}
	}
}
