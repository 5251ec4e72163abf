package row_test

import (
	"math"
	"slices"
	"testing"

	"tactile/api"
	"tactile/row"
)

// ink is what cells come with: of it the ground alone is left where they are
// cleared.
var ink = api.Attr{Fg: 77, Bg: 5, Flags: api.Bold | api.Strike}

// far are numbers beyond any row.
var far = []int{math.MinInt, math.MinInt + 1, -1 << 32, -513, 512, 513, 1 << 32, math.MaxInt - 1, math.MaxInt}

// hold holds a row against its strip.
func hold(t *testing.T, r *row.Row, p *strip, after ...step) {
	t.Helper()
	got, want := r.Cells(), p.told()
	if !slices.EqualFunc(got, want, same) {
		t.Fatalf("%v: %v, not %v", after, got, want)
	}
	if r.Len() != len(want) {
		t.Fatalf("%v: Len %d, not %d", after, r.Len(), len(want))
	}
	for from := -2; from <= len(want)+2; from++ {
		blank := true
		for i, c := range want {
			blank = blank && (i < from || isBlank(c))
		}
		if r.Blank(from) != blank {
			t.Fatalf("%v: Blank(%d) of %s", after, from, show(want))
		}
	}
}

// follow does a step to both, and holds them against each other.
func follow(t *testing.T, r *row.Row, p *strip, s step) {
	t.Helper()
	was := r.Cells()
	got, want := s.on(r), p.do(s)
	if got != want {
		t.Fatalf("%v on %s: %d, not %d", s, show(was), got, want)
	}
	if got != api.OK && !slices.EqualFunc(was, r.Cells(), same) {
		t.Fatalf("%v on %s is refused, but changes it", s, show(was))
	}
	hold(t, r, p, s)
}

// made is a row of so many columns, and its strip, after steps that may be.
func made(t *testing.T, cols int, steps []step) (*row.Row, *strip) {
	t.Helper()
	r, err := row.New(cols)
	if err != api.OK {
		t.Fatal(cols, err)
	}
	p := &strip{}
	p.resize(cols)
	for _, s := range steps {
		if got, want := s.on(r), p.do(s); got != api.OK || want != api.OK {
			t.Fatal(s, got, want)
		}
	}
	return r, p
}

// of is a row of a text, each cell with an attribute of its own: a . is a blank
// cell, a capital letter a wide rune, which takes a place more; behind a cell's
// sign ' is a mark.
func of(text string) (cols int, steps []step) {
	for i, x := range text {
		s := step{kind: "Put", at: cols, x: x, wide: x >= 'A' && x <= 'Z', a: api.Attr{Fg: uint32(i + 1), Bg: uint32(i + 40), Flags: 1}}
		switch {
		case x == '\'':
			s = step{kind: "Join", at: cols - 1, x: 0x301}
		case x == '.':
			s.x, cols = ' ', cols+1
		case s.wide:
			cols += 2
		default:
			cols++
		}
		steps = append(steps, s)
	}
	return cols, steps
}

// everyText hands each text of so many columns, with marks or without.
func everyText(cols int, signs []string, hand func(string)) {
	everyRest(cols, "", signs, hand)
}

func everyRest(cols int, text string, signs []string, hand func(string)) {
	if cols == 0 {
		hand(text)
		return
	}
	for _, s := range signs {
		long := 1
		if s[0] >= 'A' && s[0] <= 'Z' {
			long = 2
		}
		if long <= cols {
			everyRest(cols-long, text+s, signs, hand)
		}
	}
}

// plain are the kinds of cells, marked those with marks, too.
var (
	plain  = []string{".", "a", "W"}
	marked = []string{".", "a", "W", "b'", "V'", ".''", "U''''"}
)

// everyStep is each step about a row of so many columns, and beyond.
func everyStep(cols int) (steps []step) {
	for at := -1; at <= cols+1; at++ {
		steps = append(steps,
			step{kind: "Put", at: at, x: 'x', a: ink},
			step{kind: "Put", at: at, x: ' ', a: ink},
			step{kind: "Put", at: at, x: 0x4e00, wide: true, a: ink},
			step{kind: "Put", at: at, x: ' ', wide: true, a: ink},
			step{kind: "Join", at: at, x: 0x302},
		)
		for to := -1; to <= cols+1; to++ {
			for _, kind := range []string{"Erase", "Insert", "Delete"} {
				steps = append(steps, step{kind: kind, at: at, to: to, a: ink})
			}
		}
		steps = append(steps, step{kind: "Resize", to: at})
	}
	return steps
}

// TestExamples: the document's own, and more, told outright.
func TestExamples(t *testing.T) {
	for _, x := range []struct {
		text string
		s    step
		want string
	}{
		{"aWb", step{kind: "Put", at: 2, x: 'x'}, "a.xb"},
		{"aWb", step{kind: "Insert", at: 2, to: 1}, "a..."},
		{"aWb", step{kind: "Delete", at: 0, to: 1}, "W)b."},
		{"aWb", step{kind: "Erase", at: 0, to: 2}, "...b"},

		{"aWb", step{kind: "Put", at: 1, x: 'x'}, "ax.b"},
		{"aWb", step{kind: "Put", at: 0, x: 'X', wide: true}, "X).b"},
		{"aWb", step{kind: "Put", at: 2, x: 'X', wide: true}, "a.X)"},
		{"aWb", step{kind: "Put", at: 1, x: 'X', wide: true}, "aX)b"},
		{"VW", step{kind: "Put", at: 1, x: 'X', wide: true}, ".X)."},
		{"VW", step{kind: "Delete", at: 1, to: 2}, "...."},
		{"UVW", step{kind: "Delete", at: 1, to: 4}, "......"},
		{"aVWb", step{kind: "Delete", at: 2, to: 2}, "a..b.."},
		{"VW", step{kind: "Delete", at: 1, to: 1}, ".W)."},
		{"VW", step{kind: "Delete", at: 0, to: 1}, ".W)."},
		{"VW", step{kind: "Delete", at: 0, to: 2}, "W).."},
		{"VW", step{kind: "Delete", at: 1, to: 0}, "V)W)"},
		{"VW", step{kind: "Delete", at: 1, to: 9}, "...."},
		{"VW", step{kind: "Insert", at: 1, to: 0}, "V)W)"},
		{"VW", step{kind: "Insert", at: 0, to: 1}, ".V)."},
		{"VW", step{kind: "Insert", at: 2, to: 1}, "V).."},
		{"VW", step{kind: "Insert", at: 1, to: 2}, "...."},
		{"VWab", step{kind: "Insert", at: 1, to: 2}, "....W)"},
		{"VW", step{kind: "Insert", at: -3, to: 2}, "..V)"},
		{"VW", step{kind: "Erase", at: 1, to: 3}, "...."},
		{"VW", step{kind: "Erase", at: 1, to: 1}, "V)W)"},
		{"VW", step{kind: "Erase", at: 3, to: 1}, "V)W)"},
		{"VW", step{kind: "Erase", at: -9, to: 9}, "...."},
		{"VW", step{kind: "Resize", to: 3}, "V)."},
		{"VW", step{kind: "Resize", to: 1}, "."},
		{"VW", step{kind: "Resize", to: 6}, "V)W).."},
		{"ab", step{kind: "Resize", to: 1}, "a"},
		{"a'W''", step{kind: "Join", at: 2, x: 0x301}, "a1W3)"},
		{"a'W''", step{kind: "Join", at: 1, x: 0x301}, "a1W3)"},
		{"a'W''", step{kind: "Put", at: 0, x: 'x'}, "xW2)"},
		{"a'W''", step{kind: "Put", at: 2, x: 'x'}, "a1.x"},
		{".W", step{kind: "Join", at: 0, x: 0x301}, " 1W)"},
	} {
		cols, steps := of(x.text)
		r, p := made(t, cols, steps)
		follow(t, r, p, x.s)
		if got := show(r.Cells()); got != x.want {
			t.Errorf("%v on %s: %s, not %s", x.s, x.text, got, x.want)
		}
	}
}

// TestAttributes: what is put has the attribute, what is cleared its ground,
// what is left alone keeps its own, what comes behind the end has none.
func TestAttributes(t *testing.T) {
	own := api.Attr{Fg: 3, Bg: 4, Flags: api.Under}
	ground := api.Attr{Bg: ink.Bg}
	put := step{kind: "Put", at: 1, x: 'W', wide: true, a: own}
	for _, x := range []struct {
		s    step
		want []api.Attr
	}{
		{step{kind: "Join", at: 2, x: 0x301}, []api.Attr{{}, own, own, {}}},
		{step{kind: "Put", at: 1, x: 'x', a: ink}, []api.Attr{{}, ink, own, {}}},
		{step{kind: "Put", at: 2, x: 'x', a: ink}, []api.Attr{{}, own, ink, {}}},
		{step{kind: "Put", at: 2, x: 'X', wide: true, a: ink}, []api.Attr{{}, own, ink, ink}},
		{step{kind: "Put", at: 0, x: 'X', wide: true, a: ink}, []api.Attr{ink, ink, own, {}}},
		{step{kind: "Put", at: 3, x: ' ', a: ink}, []api.Attr{{}, own, own, ink}},
		{step{kind: "Erase", at: 2, to: 3, a: ink}, []api.Attr{{}, own, ground, {}}},
		{step{kind: "Erase", at: 0, to: 2, a: ink}, []api.Attr{ground, ground, own, {}}},
		{step{kind: "Insert", at: 2, to: 1, a: ink}, []api.Attr{{}, own, ground, own}},
		{step{kind: "Insert", at: 0, to: 2, a: ink}, []api.Attr{ground, ground, {}, own}},
		{step{kind: "Delete", at: 2, to: 1, a: ink}, []api.Attr{{}, own, {}, ground}},
		{step{kind: "Delete", at: 0, to: 2, a: ink}, []api.Attr{own, {}, ground, ground}},
		{step{kind: "Resize", to: 2}, []api.Attr{{}, own}},
		{step{kind: "Resize", to: 5}, []api.Attr{{}, own, own, {}, {}}},
	} {
		r, p := made(t, 4, []step{put})
		follow(t, r, p, x.s)
		for i, c := range r.Cells() {
			if c.A != x.want[i] {
				t.Errorf("%v: the attribute of %d is %v, not %v", x.s, i, c.A, x.want[i])
			}
		}
	}
}

// TestNew: of each size about those that may be.
func TestNew(t *testing.T) {
	for _, cols := range append([]int{-2, -1, 0}, far...) {
		r, err := row.New(cols)
		if cols != 512 && (r != nil || err != api.ErrArg) {
			t.Error(cols, r, err)
		}
	}
	for cols := 1; cols <= 512; cols++ {
		r, err := row.New(cols)
		if err != api.OK || r.Len() != cols || len(r.Cells()) != cols || !r.Blank(0) {
			t.Fatal(cols, err)
		}
		for _, c := range r.Cells() {
			if !same(c, api.Cell{R: 32}) {
				t.Fatal(cols, c)
			}
		}
	}
}

// TestEveryStep does each step to each row of up to five cells.
func TestEveryStep(t *testing.T) {
	for cols := 1; cols <= 5; cols++ {
		all := everyStep(cols)
		everyText(cols, marked, func(text string) {
			_, steps := of(text)
			r, p := made(t, cols, steps)
			hold(t, r, p)
			for _, s := range all {
				follow(t, r.Copy(), p.copied(), s)
			}
			hold(t, r, p)
		})
	}
}

// TestEveryTwoSteps does each step behind each other one, to rows of up to
// four cells.
func TestEveryTwoSteps(t *testing.T) {
	for cols := 1; cols <= 4; cols++ {
		all := everyStep(cols)
		everyText(cols, plain, func(text string) {
			_, steps := of(text)
			r, p := made(t, cols, steps)
			for _, first := range all {
				one, other := r.Copy(), p.copied()
				if first.on(one) != api.OK {
					continue
				}
				other.do(first)
				for _, s := range all {
					follow(t, one.Copy(), other.copied(), s)
				}
			}
		})
	}
}

// TestFar: numbers far beyond the row are held within it, or refused.
func TestFar(t *testing.T) {
	cols, steps := of("aWbV'c")
	numbers := append([]int{0, 1, 2, 3, 5, cols - 1, cols}, far...)
	for _, at := range numbers {
		for _, to := range numbers {
			for _, kind := range []string{"Erase", "Insert", "Delete"} {
				r, p := made(t, cols, steps)
				follow(t, r, p, step{kind: kind, at: at, to: to, a: ink})
			}
		}
		for _, s := range []step{
			{kind: "Put", at: at, x: 'x', a: ink},
			{kind: "Put", at: at, x: 'X', wide: true, a: ink},
			{kind: "Join", at: at, x: 0x301},
			{kind: "Resize", to: at},
		} {
			r, p := made(t, cols, steps)
			follow(t, r, p, s)
		}
		r, _ := made(t, cols, steps)
		if r.Blank(at) != (at >= cols) {
			t.Error("Blank", at)
		}
	}
}

// TestCell: each one is as Cells has it, and there is no other one.
func TestCell(t *testing.T) {
	for _, text := range []string{"a", "W", "aW'b''.", ".a''''V'cU"} {
		cols, steps := of(text)
		r, _ := made(t, cols, steps)
		for i, want := range r.Cells() {
			if c, err := r.Cell(i); err != api.OK || !same(c, want) {
				t.Error(text, i, c, err)
			}
		}
		for _, i := range append([]int{-2, -1, cols, cols + 1}, far...) {
			if c, err := r.Cell(i); err != api.ErrNone || !same(c, api.Cell{}) {
				t.Error(text, i, c, err)
			}
		}
	}
}

// TestRunes: of each rune, whether it may be put and joined.
func TestRunes(t *testing.T) {
	check := func(x int32) {
		r, p := made(t, 3, []step{{kind: "Put", at: 0, x: 'a'}})
		got := [3]api.Errno{r.Put(0, x, false, ink), r.Join(0, x), r.Put(1, x, true, ink)}
		want, cells := [3]api.Errno{}, []api.Cell{
			{R: x, Comb: []int32{x}, A: ink}, {R: x, Wide: api.Left, A: ink}, {Wide: api.Right, A: ink},
		}
		if !isRune(x) {
			want, cells = [3]api.Errno{api.ErrArg, api.ErrArg, api.ErrArg}, p.told()
		}
		if got != want || !slices.EqualFunc(r.Cells(), cells, same) {
			t.Fatalf("%#x: %v, %v", x, got, r.Cells())
		}
	}
	for x := int32(-300); x < 0x110000+300; x++ {
		check(x)
	}
	for _, x := range []int32{math.MinInt32, -0x10000, 1 << 24, math.MaxInt32} {
		check(x)
	}
}

// TestMarks: up to four are joined, in their order, and no other one; a right
// half's go to the left half.
func TestMarks(t *testing.T) {
	for _, x := range []struct{ text, want string }{
		{"abc", "ab4c"}, {"a.c", "a 4c"}, {"aWc", "aW4)c"}, {"Wc", "W4)c"},
	} {
		cols, steps := of(x.text)
		for _, first := range []int{0, 1} {
			r, p := made(t, cols, steps)
			for n := range 7 {
				follow(t, r, p, step{kind: "Join", at: 1, x: 0x300 + int32(n)})
			}
			at := 1
			if x.text == "Wc" {
				at = first
			}
			follow(t, r, p, step{kind: "Join", at: at, x: 0x200})
			if got := show(r.Cells()); got != x.want {
				t.Error(x.text, got)
			}
			left, _ := r.Cell(at)
			if left.Wide == api.Right {
				left, _ = r.Cell(at - 1)
			}
			if !slices.Equal(left.Comb, []int32{0x300, 0x301, 0x302, 0x303}) {
				t.Error(x.text, left.Comb)
			}
		}
	}
}

// TestMarksGo: with their rune, or the half of it that is left alone.
func TestMarksGo(t *testing.T) {
	cols, steps := of("W''''ab''''")
	for _, s := range []step{
		{kind: "Put", at: 0, x: 'x'}, {kind: "Put", at: 1, x: 'x'},
		{kind: "Erase", at: 0, to: 1}, {kind: "Erase", at: 1, to: 2}, {kind: "Insert", at: 1, to: 1},
		{kind: "Delete", at: 1, to: 1}, {kind: "Resize", to: 1},
	} {
		r, p := made(t, cols, steps)
		follow(t, r, p, s)
		if c, _ := r.Cell(0); len(c.Comb) != 0 {
			t.Error(s, c)
		}
		for range 5 {
			follow(t, r, p, step{kind: "Join", at: 0, x: 0x305})
		}
	}
}

// TestErrFirst: a rune or a column that may not be is told ahead of marks that
// are too many.
func TestErrFirst(t *testing.T) {
	r, p := made(t, 1, nil)
	for range 4 {
		follow(t, r, p, step{kind: "Join", at: 0, x: 0x301})
	}
	for _, x := range []struct {
		col  int
		x    int32
		want api.Errno
	}{
		{0, 0x301, api.ErrFull}, {0, 31, api.ErrArg}, {0, 0xd800, api.ErrArg}, {1, 0x301, api.ErrArg}, {-1, 0x301, api.ErrArg},
	} {
		if got := r.Join(x.col, x.x); got != x.want {
			t.Error(x, got)
		}
	}
}

// TestBlank: a blank that has marks, or is wide, is none; an attribute makes no
// odds.
func TestBlank(t *testing.T) {
	for _, x := range []struct {
		steps []step
		want  int // the first column from which on all is blank
	}{
		{nil, 0},
		{[]step{{kind: "Put", at: 2, x: ' ', a: ink}}, 0},
		{[]step{{kind: "Erase", at: 0, to: 5, a: ink}}, 0},
		{[]step{{kind: "Join", at: 2, x: ' '}}, 3},
		{[]step{{kind: "Put", at: 2, x: ' ', wide: true}}, 4},
		{[]step{{kind: "Put", at: 2, x: ' ', wide: true}, {kind: "Put", at: 3, x: ' '}}, 0},
		{[]step{{kind: "Put", at: 0, x: 0xa0}}, 1},
		{[]step{{kind: "Put", at: 4, x: 'a'}}, 5},
	} {
		r, _ := made(t, 5, x.steps)
		for from := -3; from <= 9; from++ {
			if r.Blank(from) != (max(from, 0) >= x.want) {
				t.Error(x.steps, from)
			}
		}
	}
}

// TestWideAtTheEnd: a wide rune needs a next cell, a row of one has none.
func TestWideAtTheEnd(t *testing.T) {
	for cols := 1; cols <= 512; cols++ {
		r, p := made(t, cols, nil)
		follow(t, r, p, step{kind: "Put", at: cols - 1, x: 'W', wide: true, a: ink})
		follow(t, r, p, step{kind: "Put", at: cols - 2, x: 'W', wide: true, a: ink})
		follow(t, r, p, step{kind: "Put", at: cols - 1, x: 'w', a: ink})
	}
}

// TestLong does many steps, one behind the other, to rows of all sizes.
func TestLong(t *testing.T) {
	x := uint32(1)
	next := func(n int) int {
		x = x*1664525 + 1013904223
		return int(x>>16) % n
	}
	kinds := []string{"Put", "Put", "Put", "Join", "Join", "Erase", "Insert", "Delete", "Resize"}
	for round := range 300 {
		cols := 1 + next(12)
		if round%50 == 0 {
			cols = 500 + next(13)
		}
		r, p := made(t, cols, nil)
		for range 200 {
			s := step{kind: kinds[next(len(kinds))], at: next(r.Len()+4) - 2, to: next(r.Len()+4) - 2}
			s.x, s.wide = int32('a'+next(26)), next(2) == 1
			s.a = api.Attr{Fg: uint32(next(9)), Bg: uint32(next(9)), Flags: uint16(next(256))}
			if s.kind == "Insert" || s.kind == "Delete" {
				s.to = next(5) - 1
			}
			if s.kind == "Resize" {
				s.to = r.Len() + next(7) - 3
			}
			follow(t, r, p, s)
			holdWhole(t, r.Cells(), s)
		}
	}
}

// holdWhole holds that halves stand side by side, as they should look.
func holdWhole(t *testing.T, cells []api.Cell, after step) {
	t.Helper()
	for i, c := range cells {
		left := c.Wide == 1 && (i+1 == len(cells) || cells[i+1].Wide != 2 || cells[i+1].A != c.A)
		right := c.Wide == 2 && (i == 0 || cells[i-1].Wide != 1 || c.R != 0 || len(c.Comb) > 0)
		if left || right || c.Wide > 2 {
			t.Fatalf("%v: %v", after, cells)
		}
	}
}

// TestInsertDelete: what is inserted is deleted again, but for what went beyond
// the end, and halves that were parted.
func TestInsertDelete(t *testing.T) {
	everyText(6, marked, func(text string) {
		cols, steps := of(text)
		r, _ := made(t, cols, steps)
		was := r.Cells()
		for col := range cols {
			for n := range cols - col + 1 {
				again := r.Copy()
				again.Insert(col, n, ink)
				again.Delete(col, n, ink)
				for i, c := range again.Cells()[:cols-n] {
					parted := n > 0 && (i == col-1 && was[i].Wide == 1 || i == col && was[i].Wide == 2 || i == cols-n-1 && was[i].Wide == 1)
					if want := was[i]; !parted && !same(c, want) || parted && !isBlank(c) {
						t.Fatal(text, col, n, i, c)
					}
				}
			}
		}
	})
}

// TestResizeForgets: what was beyond the end does not come back.
func TestResizeForgets(t *testing.T) {
	cols, steps := of("aW'b'c")
	for less := 1; less < cols; less++ {
		r, p := made(t, cols, steps)
		follow(t, r, p, step{kind: "Resize", to: less})
		follow(t, r, p, step{kind: "Resize", to: cols})
		for i, c := range r.Cells() {
			if i >= less && !same(c, api.Cell{R: 32}) {
				t.Error(less, i, c)
			}
		}
	}
}

// TestResizeSizes: each size about those that may be.
func TestResizeSizes(t *testing.T) {
	cols, steps := of("aW'b'c")
	for to := -3; to <= 520; to++ {
		r, p := made(t, cols, steps)
		follow(t, r, p, step{kind: "Resize", to: to})
		follow(t, r, p, step{kind: "Resize", to: 512})
		follow(t, r, p, step{kind: "Put", at: 511, x: 'z', a: ink})
		follow(t, r, p, step{kind: "Resize", to: 513 - max(1, min(to, 512))})
	}
}

// TestNothing: a row that is not there, and a zero one.
func TestNothing(t *testing.T) {
	for _, r := range []*row.Row{nil, {}, new(row.Row)} {
		if r.Len() != 0 || r.Cells() != nil || r.Copy() != nil {
			t.Error(r.Len(), r.Cells(), r.Copy())
		}
		for _, i := range append([]int{-1, 0, 1, 2}, far...) {
			if c, err := r.Cell(i); err != api.ErrNil || !same(c, api.Cell{}) {
				t.Error(i, c, err)
			}
			if !r.Blank(i) {
				t.Error("Blank", i)
			}
			for _, s := range append(everyStep(2), step{kind: "Put", at: i, x: -1, wide: true}, step{kind: "Join", at: i, x: -1}, step{kind: "Resize", to: i}) {
				if err := s.on(r); err != api.ErrNil {
					t.Error(s, err)
				}
			}
		}
		if r.Len() != 0 || r.Cells() != nil {
			t.Error("something came of nothing")
		}
	}
}

// scribble writes over all of a list, and what stands behind it.
func scribble(cells []api.Cell) {
	cells = cells[:cap(cells)]
	for i := range cells {
		marks := cells[i].Comb[:cap(cells[i].Comb)]
		for j := range marks {
			marks[j] = -7
		}
		cells[i] = api.Cell{R: -7, Wide: 9, A: api.Attr{Fg: 9}}
	}
}

// TestOwnMemory: what is told may be written over, and shares none with
// anything else that is told.
func TestOwnMemory(t *testing.T) {
	cols, steps := of("a'W''.b''''V.'''")
	r, p := made(t, cols, steps)
	scribble(r.Cells())
	hold(t, r, p)
	for i := range cols {
		c, _ := r.Cell(i)
		scribble([]api.Cell{c})
		hold(t, r, p)
	}
	all := r.Cells()
	for i := range all {
		other := r.Cells()
		scribble(all[i : i+1 : i+1])
		if !slices.EqualFunc(other, p.told(), same) || !slices.EqualFunc(all[i+1:], p.told()[i+1:], same) {
			t.Fatal("memory of", i, "is another's, too")
		}
	}
	told := r.Cells()
	for _, s := range everyStep(cols) {
		s.on(r)
	}
	if !slices.EqualFunc(told, p.told(), same) {
		t.Error("what was told has changed")
	}
}

// TestCopy: it is the same, and goes its own way, as the first one does.
func TestCopy(t *testing.T) {
	for _, text := range []string{"a'W''.b''''V.'''", "abcdefgh", "VW", "....", "V''U'"} {
		cols, steps := of(text)
		r, p := made(t, cols, steps)
		for _, s := range everyStep(cols) {
			one, other := r.Copy(), r.Copy()
			hold(t, one, p)
			s.on(one)
			hold(t, r, p, s)
			hold(t, other, p, s)
			follow(t, other, p.copied(), s)
			third := other.Copy()
			was := third.Cells()
			for _, s := range everyStep(cols) {
				s.on(other)
			}
			if !slices.EqualFunc(was, third.Cells(), same) {
				t.Fatal(text, s, "the copy changes with its first one")
			}
		}
	}
}
