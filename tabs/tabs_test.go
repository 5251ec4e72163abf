package tabs_test

import (
	"math"
	"slices"
	"testing"

	"tactile/api"
	"tactile/tabs"
)

// far are numbers beyond any tabs.
var far = []int{math.MinInt, math.MinInt + 1, -1 << 32, -513, -512, 512, 513, 1 << 32, math.MaxInt - 1, math.MaxInt}

// sizes are how many columns there may be, about the bounds of words and
// eighths.
var sizes = []int{1, 2, 7, 8, 9, 10, 16, 17, 63, 64, 65, 66, 72, 73, 80, 127, 128, 129, 132, 136, 137, 200, 255, 256, 257, 448, 449, 504, 505, 510, 511, 512}

// made are tabs of so many columns, and their ruler, after steps that may be.
func made(t *testing.T, cols int, steps ...step) (*tabs.Tabs, *ruler) {
	t.Helper()
	got, err := tabs.New(cols)
	if err != api.OK {
		t.Fatal(cols, err)
	}
	r := &ruler{}
	r.resize(cols)
	for _, s := range steps {
		follow(t, got, r, s)
	}
	return got, r
}

// follow does a step to both, and holds them against each other.
func follow(t *testing.T, got *tabs.Tabs, r *ruler, s step) {
	t.Helper()
	was := got.Stops()
	one, other := s.on(got), r.do(s)
	if one != other {
		t.Fatalf("%v of %d, stops %v: %d, not %d", s, len(*r), was, one, other)
	}
	hold(t, got, *r, s)
}

// hold holds tabs against their ruler.
func hold(t *testing.T, got *tabs.Tabs, r ruler, after ...step) {
	t.Helper()
	if got.Cols() != len(r) || !slices.Equal(got.Stops(), r.stops()) {
		t.Fatalf("%v: %d, %v, not %d, %v", after, got.Cols(), got.Stops(), len(r), r.stops())
	}
}

// holdMoves holds where all the columns, those beyond too, lead to in so many
// steps.
func holdMoves(t *testing.T, got *tabs.Tabs, r ruler, numbers ...int) {
	t.Helper()
	for col := -3; col < len(r)+3; col++ {
		holdMovesFrom(t, got, r, col, numbers...)
	}
}

// holdMovesFrom holds where a column leads to in so many steps.
func holdMovesFrom(t *testing.T, got *tabs.Tabs, r ruler, col int, numbers ...int) {
	t.Helper()
	for _, n := range numbers {
		if one, other := got.Next(col, n), r.next(col, n); one != other {
			t.Fatalf("Next(%d, %d) of %d, stops %v: %d, not %d", col, n, len(r), r.stops(), one, other)
		}
		if one, other := got.Prev(col, n), r.prev(col, n); one != other {
			t.Fatalf("Prev(%d, %d) of %d, stops %v: %d, not %d", col, n, len(r), r.stops(), one, other)
		}
	}
}

// only are the steps that leave just these stops.
func only(cols ...int) []step {
	steps := []step{{kind: "ClearAll"}}
	for _, col := range cols {
		steps = append(steps, step{"Set", col})
	}
	return steps
}

// TestExamples: the document's own, and more, told outright.
func TestExamples(t *testing.T) {
	for _, x := range []struct {
		steps      []step
		col, n     int
		next, prev int
	}{
		{nil, 0, 1, 8, 0},
		{nil, 8, 1, 16, 0},
		{nil, 16, 1, 19, 8},
		{nil, 17, 2, 19, 8},
		{only(3), 0, 1, 3, 0},
		{only(3), 3, 1, 19, 0},

		{nil, 0, 2, 16, 0},
		{nil, 0, 3, 19, 0},
		{nil, 7, 1, 8, 0},
		{nil, 9, 1, 16, 8},
		{nil, 19, 1, 19, 16},
		{nil, 19, 2, 19, 8},
		{nil, 19, 3, 19, 0},
		{nil, 5, 0, 5, 5},
		{nil, 5, -1, 5, 5},
		{nil, -5, 0, 0, 0},
		{nil, -5, 1, 8, 0},
		{nil, 25, 0, 19, 19},
		{nil, 25, 1, 19, 16},
		{nil, 25, -7, 19, 19},
		{nil, 10, math.MaxInt, 19, 0},
		{nil, 10, math.MinInt, 10, 10},
		{nil, math.MinInt, 2, 16, 0},
		{nil, math.MaxInt, 2, 19, 8},
		{only(), 10, 1, 19, 0},
		{only(), 10, 0, 10, 10},
		{only(0, 19), 10, 1, 19, 0},
		{only(0, 19), 10, 2, 19, 0},
		{only(0, 19), 19, 1, 19, 0},
		{only(0, 19), 0, 1, 19, 0},
		{only(0, 19), 99, 1, 19, 0},
		{only(0, 19), -99, 1, 19, 0},
		{only(4, 5, 6), 5, 1, 6, 4},
		{only(4, 5, 6), 4, 2, 6, 0},
		{only(4, 5, 6), 6, 2, 19, 4},
		{only(4, 5, 6), 4, 3, 19, 0},
		{only(4, 5, 6), 6, 3, 19, 0},
	} {
		got, _ := made(t, 20, x.steps...)
		if next, prev := got.Next(x.col, x.n), got.Prev(x.col, x.n); next != x.next || prev != x.prev {
			t.Errorf("%v, %d, %d: %d, %d, not %d, %d", x.steps, x.col, x.n, next, prev, x.next, x.prev)
		}
	}
}

// TestNew: of each number of columns, those that may not be, too.
func TestNew(t *testing.T) {
	for _, cols := range append([]int{-2, -1, 0}, far...) {
		got, err := tabs.New(cols)
		if cols != 512 && (got != nil || err != api.ErrArg) {
			t.Error(cols, got, err)
		}
	}
	for cols := 1; cols <= 512; cols++ {
		got, r := made(t, cols)
		hold(t, got, *r)
		for i, col := range got.Stops() {
			if col != 8*(i+1) {
				t.Fatal(cols, got.Stops())
			}
		}
		if len(got.Stops()) != (cols-1)/8 {
			t.Fatal(cols, got.Stops())
		}
	}
}

// TestEverySet: of all sets of stops of a few columns, all steps and moves.
func TestEverySet(t *testing.T) {
	numbers := []int{math.MinInt, -1, 0, 1, 2, 3, 4, 5, 6, 7, 8, 9, 10, 11, math.MaxInt}
	for cols := 1; cols <= 10; cols++ {
		for set := range 1 << cols {
			var stops []int
			for col := range cols {
				if set>>col&1 == 1 {
					stops = append(stops, col)
				}
			}
			got, r := made(t, cols, only(stops...)...)
			holdMoves(t, got, *r, numbers...)
			for at := -2; at <= cols+2; at++ {
				for _, kind := range []string{"Set", "Clear", "ClearAll", "Resize"} {
					own := slices.Clone(*r)
					follow(t, got.Copy(), &own, step{kind, at})
				}
			}
			hold(t, got, *r)
		}
	}
}

// TestEveryColumn: each column alone is a stop, and each alone is none.
func TestEveryColumn(t *testing.T) {
	for _, cols := range sizes {
		all, every := made(t, cols)
		for col := range cols {
			follow(t, all, every, step{"Set", col})
		}
		for col := range cols {
			got, r := made(t, cols, only(col)...)
			holdMovesFrom(t, got, *r, col-1, 0, 1, 2)
			holdMovesFrom(t, got, *r, col, 0, 1, 2)
			holdMovesFrom(t, got, *r, col+1, 0, 1, 2)
			follow(t, got, r, step{"Set", col})
			follow(t, got, r, step{"Clear", col})
			follow(t, got, r, step{"Clear", col})

			follow(t, all, every, step{"Clear", col})
			holdMovesFrom(t, all, *every, col-1, 0, 1, 2)
			holdMovesFrom(t, all, *every, col, 0, 1, 2)
			holdMovesFrom(t, all, *every, col+1, 0, 1, 2)
			follow(t, all, every, step{"Set", col})
		}
	}
}

// TestEveryMove: each column of tabs of many kinds, and more steps than there
// are stops.
func TestEveryMove(t *testing.T) {
	for _, cols := range sizes {
		last := cols - 1
		for _, stops := range [][]int{nil, {0}, {last}, {0, last}, {last / 2}, {0, last / 3, last / 2, last}} {
			got, r := made(t, cols, only(stops...)...)
			holdMoves(t, got, *r, append(far, -1, 0, 1, 2, 3, 4, 5, 6)...)
		}
		got, r := made(t, cols)
		holdMoves(t, got, *r, append(far, -1, 0, 1, 2, 3, 7, 8, 9, 62, 63, 64, 65)...)
		for col := range cols {
			follow(t, got, r, step{"Set", col})
		}
		holdMoves(t, got, *r, -1, 0, 1, 2, 63, 64, 65, 128, 510, 511, 512, 513, math.MaxInt)
	}
}

// TestFar: a column that is none is refused, or held within the columns.
func TestFar(t *testing.T) {
	for _, cols := range sizes {
		for _, at := range append([]int{-65, -64, -9, -8, -2, -1, cols, cols + 1, cols + 8, cols + 64, 576}, far...) {
			if at == 512 {
				continue
			}
			got, r := made(t, cols)
			follow(t, got, r, step{"Set", at})
			follow(t, got, r, step{"Clear", at})
			holdMovesFrom(t, got, *r, at, append(far, -1, 0, 1, 2, 3, 100)...)
			if got.Set(at) != api.ErrArg || got.Clear(at) != api.ErrArg {
				t.Error(cols, at, "is taken")
			}
		}
	}
}

// TestMovesInParts: n steps are one step n times, and so many and so many are
// as many as both.
func TestMovesInParts(t *testing.T) {
	for _, stops := range [][]int{nil, {0}, {0, 1, 2, 3}, {63, 64, 65}, {5, 63, 64, 99, 127, 128, 199}} {
		got, _ := made(t, 200, only(stops...)...)
		for col := -1; col <= 200; col++ {
			next, prev := got.Next(col, 0), got.Prev(col, 0)
			for n := 1; n < 9; n++ {
				next, prev = got.Next(next, 1), got.Prev(prev, 1)
				if got.Next(col, n) != next || got.Prev(col, n) != prev {
					t.Fatal(stops, col, n)
				}
				for part := range n {
					if got.Next(got.Next(col, part), n-part) != next || got.Prev(got.Prev(col, part), n-part) != prev {
						t.Fatal(stops, col, n, part)
					}
				}
			}
		}
	}
}

// TestMovesLeaveIt: to move, and to ask, changes nothing.
func TestMovesLeaveIt(t *testing.T) {
	got, r := made(t, 130, only(0, 9, 63, 64, 129)...)
	for _, col := range append([]int{-1, 0, 9, 64, 129, 130}, far...) {
		for _, n := range append([]int{-1, 0, 1, 3, 9}, far...) {
			got.Next(col, n)
			got.Prev(col, n)
			hold(t, got, *r)
		}
	}
}

// TestResize: from each of many sizes to each other one, and back.
func TestResize(t *testing.T) {
	for _, from := range sizes {
		for _, to := range append([]int{math.MinInt, -512, -64, -1, 0, 513, 514, 520, 576, 1024, 1 << 32, math.MaxInt}, sizes...) {
			for _, steps := range [][]step{nil, only(), only(0), only(from - 1), only(0, from/2, from-1)} {
				got, r := made(t, from, steps...)
				follow(t, got, r, step{"Resize", to})
				follow(t, got, r, step{"Resize", from})
				follow(t, got, r, step{"Resize", to})
				last := got.Cols() - 1
				for _, at := range []int{0, last, last + 1, -1} {
					follow(t, got, r, step{"Set", at})
				}
				holdMovesFrom(t, got, *r, 0, 1, 2, 600)
				holdMovesFrom(t, got, *r, last, 1, 2, 600)
			}
		}
	}
}

// TestResizeEach: to each size that there may be, of tabs that have no stop,
// and of those all of whose columns are.
func TestResizeEach(t *testing.T) {
	for _, from := range []int{1, 9, 64, 100, 512} {
		for to := -2; to <= 515; to++ {
			got, r := made(t, from, only()...)
			follow(t, got, r, step{"Resize", to})
			got, r = made(t, from)
			for col := range from {
				got.Set(col)
				r.do(step{"Set", col})
			}
			follow(t, got, r, step{"Resize", to})
			follow(t, got, r, step{"Resize", 512})
		}
	}
}

// TestResizeForgets: a column that goes and comes again is as at first.
func TestResizeForgets(t *testing.T) {
	for _, x := range []struct {
		steps []step
		want  []int
	}{
		{[]step{{"Resize", 10}, {"Resize", 30}}, []int{8, 16, 24}},
		{[]step{{"Set", 20}, {"Resize", 10}, {"Resize", 30}}, []int{8, 16, 24}},
		{[]step{{"Set", 20}, {"Resize", 20}, {"Resize", 30}}, []int{8, 16, 24}},
		{[]step{{"Set", 20}, {"Resize", 21}, {"Resize", 30}}, []int{8, 16, 20, 24}},
		{[]step{{"Clear", 16}, {"Resize", 16}, {"Resize", 30}}, []int{8, 16, 24}},
		{[]step{{"Clear", 16}, {"Resize", 17}, {"Resize", 30}}, []int{8, 24}},
		{[]step{{"ClearAll", 0}, {"Resize", 16}, {"Resize", 30}}, []int{16, 24}},
		{[]step{{"ClearAll", 0}, {"Resize", 17}, {"Resize", 30}}, []int{24}},
		{[]step{{"Resize", 16}, {"ClearAll", 0}, {"Resize", 30}}, []int{16, 24}},
		{[]step{{"Set", 0}, {"Resize", 1}, {"Resize", 9}}, []int{0, 8}},
		{[]step{{"Resize", 1}, {"Resize", 9}}, []int{8}},
		{[]step{{"Resize", 1}, {"Resize", 8}}, nil},
		{[]step{{"Set", 20}, {"Resize", 30}}, []int{8, 16, 20, 24}},
		{[]step{{"Set", 20}, {"Resize", 0}}, []int{8, 16, 20, 24}},
		{[]step{{"Set", 20}, {"Resize", 513}}, []int{8, 16, 20, 24}},
	} {
		got, r := made(t, 30)
		for _, s := range x.steps {
			if s.at > 0 && s.at <= 512 || s.kind != "Resize" {
				follow(t, got, r, s)
			} else if err := got.Resize(s.at); err != api.ErrArg {
				t.Error(s, err)
			}
		}
		if !slices.Equal(got.Stops(), x.want) {
			t.Errorf("%v: %v, not %v", x.steps, got.Stops(), x.want)
		}
	}
}

// TestLong does many steps, one behind the other, to tabs of all sizes.
func TestLong(t *testing.T) {
	x := uint32(7)
	next := func(n int) int {
		x = x*1664525 + 1013904223
		return int(x>>16) % n
	}
	for round := range 200 {
		got, r := made(t, 1+next(512))
		if round%2 == 0 {
			got, r = made(t, 1+next(80))
		}
		for range 200 {
			s := step{"Set", next(len(*r)+4) - 2}
			switch pick := next(40); {
			case pick < 10:
				s.kind = "Clear"
			case pick == 10:
				s.kind = "ClearAll"
			case pick < 14:
				s = step{"Resize", len(*r) + next(41) - 20}
			case pick == 14:
				s = step{"Resize", next(516)}
			}
			follow(t, got, r, s)
			holdMovesFrom(t, got, *r, next(len(*r)+4)-2, next(8)-1, next(80), 1)
		}
	}
}

// TestNothing: tabs that are not there, and zero ones.
func TestNothing(t *testing.T) {
	for _, got := range []*tabs.Tabs{nil, {}, new(tabs.Tabs)} {
		numbers := append([]int{-1, 0, 1, 2, 8, 511}, far...)
		for _, at := range numbers {
			for _, kind := range []string{"Set", "Clear", "ClearAll", "Resize"} {
				if err := (step{kind, at}).on(got); err != api.ErrNil {
					t.Error(kind, at, err)
				}
			}
			for _, n := range numbers {
				if got.Next(at, n) != 0 || got.Prev(at, n) != 0 {
					t.Error(at, n, got.Next(at, n), got.Prev(at, n))
				}
			}
		}
		if got.Cols() != 0 || len(got.Stops()) != 0 || got.Copy() != nil {
			t.Error(got.Cols(), got.Stops(), got.Copy())
		}
	}
}

// TestOwnMemory: what Stops tells may be written over, and stays as it is when
// the tabs change.
func TestOwnMemory(t *testing.T) {
	for _, cols := range sizes {
		got, r := made(t, cols)
		for _, s := range []step{{"Set", 0}, {"Set", cols - 1}, {"Clear", 8}, {"Resize", 512}, {"Resize", 100}} {
			told := got.Stops()
			told = told[:cap(told)]
			other := got.Stops()
			for i := range told {
				told[i] = -7
			}
			hold(t, got, *r, s)
			if !slices.Equal(other, r.stops()) {
				t.Fatal(cols, s, "two lists share memory")
			}
			was := slices.Clone(other)
			r.do(s)
			s.on(got)
			got.Stops()
			if !slices.Equal(other, was) {
				t.Fatal(cols, s, "what was told has changed")
			}
			hold(t, got, *r, s)
		}
	}
}

// TestCopy: it is the same, and goes its own way, as the first ones do.
func TestCopy(t *testing.T) {
	steps := []step{{"Set", 3}, {"Clear", 8}, {"Set", 99}, {"ClearAll", 0}, {"Resize", 5}, {"Resize", 300}, {"Resize", 512}}
	for _, cols := range sizes {
		first, r := made(t, cols, step{"Set", cols / 2})
		for _, s := range steps {
			if s.at >= cols && s.kind != "Resize" {
				continue
			}
			one, other := first.Copy(), first.Copy()
			own := slices.Clone(*r)
			hold(t, one, *r)
			follow(t, one, &own, s)
			hold(t, first, *r, s)
			hold(t, other, *r, s)
			third, its := one.Copy(), slices.Clone(own)
			for _, s := range steps {
				follow(t, one, &own, s)
				hold(t, third, its, s)
			}
			holdMoves(t, other, *r, 1, 2)
			holdMoves(t, third, its, 1, 2)
		}
	}
}
