package lines_test

import (
	"math"
	"slices"
	"testing"

	"tactile/api"
	"tactile/lines"
	"tactile/row"
)

// ink is what cells come with: of it the ground alone is left where they are
// cleared.
var ink = api.Attr{Fg: 77, Bg: 5, Flags: api.Bold | api.Strike}

// far are numbers beyond any store.
var far = []int{math.MinInt, math.MinInt + 1, -1 << 32, -10001, -513, 10001, 1 << 32, math.MaxInt - 1, math.MaxInt}

// made is a store with a cap, and its shelf, after steps that may be.
func made(t *testing.T, most int, steps ...step) (*lines.Store, *shelf) {
	t.Helper()
	s, err := lines.New(most)
	if s == nil || err != api.OK {
		t.Fatal(most, err)
	}
	h := &shelf{most: most}
	for _, x := range steps {
		follow(t, s, h, x)
	}
	return s, h
}

// follow does a step to both, and holds them against each other.
func follow(t *testing.T, s *lines.Store, h *shelf, x step) {
	t.Helper()
	advance(t, s, h, x)
	hold(t, s, h, x)
}

// advance does a step to both, and holds what is told of it.
func advance(t *testing.T, s *lines.Store, h *shelf, x step) {
	t.Helper()
	line, err := x.on(s)
	want, wrong := h.do(x)
	if err != wrong || !sameHeld(api.Held{ID: line.ID, Cells: line.Row.Cells()}, want) {
		t.Fatalf("%v: %v %v, %d, not %v, %d", x, line.ID, line.Row.Cells(), err, want, wrong)
	}
	if (line.Row == nil) != (want.ID == 0) {
		t.Fatalf("%v: a row beside nothing: %v", x, line)
	}
}

// hold holds a store against its shelf.
func hold(t *testing.T, s *lines.Store, h *shelf, after ...step) {
	t.Helper()
	n := len(h.last())
	holdCounts(t, s, h, after...)
	for i := -2; i <= n+2; i++ {
		holdAt(t, s, h, i, after...)
	}
	for id := -2; id <= h.told+2; id++ {
		holdFind(t, s, h, id, after...)
	}
}

// holdCounts holds a store's numbers against its shelf's.
func holdCounts(t *testing.T, s *lines.Store, h *shelf, after ...step) {
	t.Helper()
	if s.Cap() != h.most || s.Next() != h.told+1 || s.Len() != len(h.last()) {
		t.Fatalf("%v: %d, %d, %d, not %d, %d, %d", after, s.Cap(), s.Next(), s.Len(), h.most, h.told+1, len(h.last()))
	}
}

// holdAt holds what is told of a line.
func holdAt(t *testing.T, s *lines.Store, h *shelf, i int, after ...step) {
	t.Helper()
	got, err := s.At(i)
	want, wrong := h.at(i)
	if err != wrong || !sameHeld(got, want) || err != api.OK && got.Cells != nil {
		t.Fatalf("%v: At(%d) of cap %d: %v, %d, not %v, %d", after, i, h.most, got, err, want, wrong)
	}
}

// holdFind holds where an id is found.
func holdFind(t *testing.T, s *lines.Store, h *shelf, id int, after ...step) {
	t.Helper()
	if got, want := s.Find(id), h.find(id); got != want {
		t.Fatalf("%v: Find(%d) of cap %d: %d, not %d", after, id, h.most, got, want)
	}
}

// letters is a row of a text, each letter with an ink of its own and a mark, a
// capital one wide.
func letters(text string) *row.Row {
	cols := len(text)
	for _, x := range text {
		if x < 'a' {
			cols++
		}
	}
	r, _ := row.New(cols)
	col := 0
	for i, x := range text {
		r.Put(col, x, x < 'a', api.Attr{Fg: uint32(i + 1), Bg: uint32(i + 40), Flags: api.Under})
		r.Join(col, 0x301)
		col++
		if x < 'a' {
			col++
		}
	}
	return r
}

// fresh is a step that tells a line, push one that pushes a text with an id.
func fresh(cols int) step              { return step{kind: "Fresh", n: cols, a: ink} }
func push(id int, text string) step    { return step{kind: "Push", n: id, r: letters(text)} }
func several(n int, x step) (s []step) { return slices.Repeat([]step{x}, n) }

// TestExamples: the document's own, told outright.
func TestExamples(t *testing.T) {
	s, err := lines.New(2)
	if err != api.OK || s.Cap() != 2 || s.Next() != 1 || s.Len() != 0 || s.Find(1) != -1 {
		t.Fatal(err, s.Cap(), s.Next(), s.Len(), s.Find(1))
	}
	for id := 1; id <= 3; id++ {
		l, err := s.Fresh(4, api.Attr{})
		if err != api.OK || l.ID != id || l.Row.Len() != 4 || !l.Row.Blank(0) {
			t.Fatal(l, err)
		}
		l.Row.Put(0, int32('a'+id-1), false, api.Attr{Fg: uint32(id)})
		if err := s.Push(l); err != api.OK {
			t.Fatal(err)
		}
	}
	for i, x := range []int32{'b', 'c'} {
		l, err := s.At(i)
		if err != api.OK || l.ID != i+2 || len(l.Cells) != 4 || l.Cells[0].R != x || l.Cells[0].A.Fg != uint32(i+2) {
			t.Error(i, l, err)
		}
	}
	if s.Len() != 2 || s.Find(1) != -1 || s.Find(2) != 0 || s.Find(3) != 1 || s.Find(4) != -1 {
		t.Error(s.Len(), s.Find(1), s.Find(2), s.Find(3), s.Find(4))
	}
	if err := s.Clear(); err != api.OK || s.Len() != 0 || s.Next() != 4 || s.Cap() != 2 {
		t.Error(err, s.Len(), s.Next(), s.Cap())
	}
	if l, err := s.Fresh(1, api.Attr{}); err != api.OK || l.ID != 4 || s.Next() != 5 {
		t.Error(l, err, s.Next())
	}
}

// TestNew: of each cap, those that may not be, too.
func TestNew(t *testing.T) {
	for _, most := range append([]int{-2, -1}, far...) {
		if s, err := lines.New(most); s != nil || err != api.ErrArg {
			t.Error(most, s, err)
		}
	}
	for most := 0; most <= 10000; most++ {
		s, h := made(t, most)
		hold(t, s, h)
	}
}

// TestFresh: of each number of columns, those that may not be, too; no id is
// lost by what is refused.
func TestFresh(t *testing.T) {
	for _, a := range []api.Attr{{}, ink, {Bg: 256}, {Bg: api.Rgb + 0x010203}, {Fg: 9}, {Flags: api.Inverse}, {Fg: math.MaxUint32, Bg: math.MaxUint32, Flags: math.MaxUint16}} {
		s, h := made(t, 3)
		for cols := -2; cols <= 515; cols++ {
			advance(t, s, h, step{kind: "Fresh", n: cols, a: a})
			holdCounts(t, s, h)
		}
		for _, cols := range far {
			if l, err := s.Fresh(cols, a); l != (lines.Line{}) || err != api.ErrArg || s.Next() != 513 {
				t.Error(cols, l, err, s.Next())
			}
		}
		hold(t, s, h)
	}
}

// TestIdsRise: whatever is done between, each id is one more than the last one.
func TestIdsRise(t *testing.T) {
	s, _ := made(t, 3)
	for id := 1; id <= 20000; id++ {
		if s.Next() != id {
			t.Fatal(id, s.Next())
		}
		l, err := s.Fresh(1+id%7, ink)
		if l.ID != id || err != api.OK {
			t.Fatal(id, l, err)
		}
		if id%3 > 0 {
			s.Push(l)
		}
		if id%100 == 0 {
			s.Clear()
		}
	}
}

// TestPush: of each id, those that were not told, too, and lines without a row.
func TestPush(t *testing.T) {
	for most := range 4 {
		for told := range 5 {
			for _, id := range append([]int{-2, -1, 0, 1, 2, 3, 4, 5, 6, 7}, far...) {
				s, h := made(t, most, several(told, fresh(3))...)
				follow(t, s, h, push(id, "aBc"))
				if err := s.Push(lines.Line{ID: id}); err != api.ErrArg {
					t.Error(id, err)
				}
				if err := s.Push(lines.Line{ID: id, Row: &row.Row{}}); err != api.ErrArg {
					t.Error(id, err)
				}
				hold(t, s, h)
			}
		}
	}
}

// TestPushAnother: the row need not be the one that Fresh told, nor as long.
func TestPushAnother(t *testing.T) {
	s, h := made(t, 4, fresh(2), fresh(3), fresh(512))
	wide, _ := row.New(512)
	for _, x := range []step{push(2, "zyx"), push(1, "A"), push(3, "abcdefgh"), {kind: "Push", n: 1, r: wide}, push(2, "b")} {
		follow(t, s, h, x)
	}
}

// TestRefused: what is refused leaves the scrollback and the ids alone.
func TestRefused(t *testing.T) {
	for most := range 4 {
		s, h := made(t, most, fresh(2), push(1, "a"), fresh(2), push(2, "b"), push(1, "c"))
		for _, x := range []step{fresh(0), fresh(-1), fresh(513), push(0, "x"), push(-1, "x"), push(3, "x"), push(4, "x"), {kind: "Push", n: 1}, {kind: "Push", n: 1, r: &row.Row{}}} {
			follow(t, s, h, x)
			if _, err := x.on(s); err != api.ErrArg {
				t.Error(x, err)
			}
			hold(t, s, h, x)
		}
	}
}

// TestEveryPath: all rows of a few steps, with all small caps.
func TestEveryPath(t *testing.T) {
	kinds := []step{fresh(2), fresh(0), push(1, "a"), push(2, "Bc"), push(3, "d"), push(0, "e"), {kind: "Push", n: 1}, {kind: "Clear"}}
	var walk func(s *lines.Store, h *shelf, more int)
	walk = func(s *lines.Store, h *shelf, more int) {
		if more == 0 {
			return
		}
		for _, x := range kinds {
			one, own := s.Copy(), h.copied()
			follow(t, one, own, x)
			walk(one, own, more-1)
		}
		hold(t, s, h)
	}
	for most := range 4 {
		s, h := made(t, most, fresh(1))
		walk(s, h, 4)
	}
}

// TestEveryFill: for small caps, each number of lines, and Clear at each.
func TestEveryFill(t *testing.T) {
	for most := range 9 {
		for n := range 3*most + 3 {
			s, h := made(t, most)
			for i := range n {
				follow(t, s, h, fresh(1+i%3))
				follow(t, s, h, push(i+1, string(rune('a'+i))))
			}
			follow(t, s, h, step{kind: "Clear"})
			follow(t, s, h, step{kind: "Clear"})
			for i := range 2*most + 2 {
				follow(t, s, h, fresh(2))
				follow(t, s, h, push(n+i+1, string(rune('b'+i))))
			}
		}
	}
}

// TestSameID: an id that was pushed more than once is found where it is newest.
func TestSameID(t *testing.T) {
	for _, x := range []struct {
		most int
		ids  []int
		find []int // of the ids 1, 2, 3
	}{
		{5, []int{1, 1}, []int{1, -1, -1}},
		{5, []int{1, 2, 1}, []int{2, 1, -1}},
		{5, []int{1, 2, 1, 3, 2}, []int{2, 4, 3}},
		{2, []int{1, 1, 2}, []int{0, 1, -1}},
		{2, []int{1, 2, 3}, []int{-1, 0, 1}},
		{2, []int{2, 2, 2, 1}, []int{1, 0, -1}},
		{1, []int{1, 1, 1}, []int{0, -1, -1}},
		{1, []int{1, 2}, []int{-1, 0, -1}},
		{0, []int{1, 1}, []int{-1, -1, -1}},
		{3, []int{3, 1, 2, 3, 1}, []int{2, 0, 1}},
	} {
		s, h := made(t, x.most, several(3, fresh(1))...)
		for i, id := range x.ids {
			follow(t, s, h, push(id, string(rune('a'+i))))
		}
		for i, want := range x.find {
			if got := s.Find(i + 1); got != want {
				t.Errorf("%v: Find(%d): %d, not %d", x.ids, i+1, got, want)
			}
		}
	}
}

// TestFar: no line has a number, or an id, that is far off.
func TestFar(t *testing.T) {
	for most := range 4 {
		s, h := made(t, most, fresh(1), push(1, "a"), fresh(1), push(2, "b"), push(2, "c"), push(1, "d"))
		for _, n := range append([]int{-2, -1, 3, 4, 5}, far...) {
			holdAt(t, s, h, n)
			holdFind(t, s, h, n)
			if l, err := s.At(n); n != 3 && (l.ID != 0 || l.Cells != nil || err != api.ErrNone) {
				t.Error(n, l, err)
			}
		}
	}
}

// TestGreat: a scrollback of as many lines as may be, and of about as many.
func TestGreat(t *testing.T) {
	for _, most := range []int{9999, 10000} {
		s, h := made(t, most)
		text := []*row.Row{letters("a"), letters("Bc"), letters("def")}
		for id := 1; id <= 2*most+5; id++ {
			advance(t, s, h, fresh(1+id%2))
			advance(t, s, h, step{kind: "Push", n: id, r: text[id%3]})
			holdCounts(t, s, h)
			if id == most-1 || id == most || id == most+1 {
				holdGreat(t, s, h)
			}
		}
		holdGreat(t, s, h)
		follow(t, s, h, step{kind: "Clear"})
		follow(t, s, h, push(7, "a"))
	}
}

// holdGreat holds all lines of a long scrollback against the last ones pushed.
func holdGreat(t *testing.T, s *lines.Store, h *shelf) {
	t.Helper()
	last := h.last()
	for i, want := range last {
		got, err := s.At(i)
		if err != api.OK || !sameHeld(got, want) {
			t.Fatal(i, got, err, want)
		}
		if s.Find(want.ID) != i {
			t.Fatal(i, want.ID, s.Find(want.ID))
		}
	}
	for _, i := range []int{-1, len(last), len(last) + 1, 10000, 20000} {
		holdAt(t, s, h, i)
	}
	for _, id := range []int{-1, 0, h.told - h.most, h.told + 1} {
		holdFind(t, s, h, id)
	}
}

// TestLong does many steps, one behind the other, to stores of all caps.
func TestLong(t *testing.T) {
	x := uint32(11)
	next := func(n int) int {
		x = x*1664525 + 1013904223
		return int(x>>16) % n
	}
	texts := []string{"a", "Bc", "def", "GH", "ijkl"}
	for round := range 60 {
		most := next(12)
		if round%10 == 0 {
			most = next(10001)
		}
		s, h := made(t, most)
		for range 200 {
			id := h.told - next(most+4) + 2
			switch pick := next(30); {
			case pick < 12:
				follow(t, s, h, fresh(1+next(6)))
			case pick < 28:
				follow(t, s, h, push(id, texts[next(5)]))
			case pick == 28:
				follow(t, s, h, fresh(next(2)*513))
			case next(3) == 0:
				follow(t, s, h, step{kind: "Clear"})
			}
		}
	}
}

// nothing are stores that are not there, and zero ones.
func nothing() []*lines.Store { return []*lines.Store{nil, {}, new(lines.Store)} }

// TestNothing: they are asked in vain, whatever they are asked.
func TestNothing(t *testing.T) {
	for _, s := range nothing() {
		for _, n := range append([]int{-1, 0, 1, 2, 512, 513, 10000}, far...) {
			for _, x := range []step{fresh(n), push(n, "a"), {kind: "Push", n: n}, {kind: "Push", n: n, r: &row.Row{}}, {kind: "Clear"}} {
				if l, err := x.on(s); l != (lines.Line{}) || err != api.ErrNil {
					t.Error(x, l, err)
				}
			}
			if l, err := s.At(n); l.ID != 0 || l.Cells != nil || err != api.ErrNil {
				t.Error(n, l, err)
			}
			if s.Find(n) != -1 {
				t.Error(n, s.Find(n))
			}
		}
		if s.Cap() != 0 || s.Next() != 0 || s.Len() != 0 || s.Copy() != nil {
			t.Error(s.Cap(), s.Next(), s.Len(), s.Copy())
		}
	}
}

// scribble changes a row in every way.
func scribble(r *row.Row) {
	r.Join(0, 0x302)
	r.Put(0, 'z', false, api.Attr{Fg: 200})
	r.Join(0, 0x303)
	r.Insert(0, 1, ink)
	r.Erase(1, 2, ink)
	r.Resize(r.Len()%512 + 1)
}

// TestOwnRows: a line may be written over behind its Push, and the one that
// Fresh told has a row of its own.
func TestOwnRows(t *testing.T) {
	for _, most := range []int{1, 2, 5} {
		s, h := made(t, most)
		var all []lines.Line
		for id := 1; id <= 7; id++ {
			l, _ := s.Fresh(3, ink)
			h.do(fresh(3))
			l.Row.Put(0, 'k', true, ink)
			was := l.Row.Cells()
			h.do(step{kind: "Push", n: id, r: l.Row})
			if err := s.Push(l); err != api.OK {
				t.Fatal(err)
			}
			if l.ID != id || !slices.EqualFunc(l.Row.Cells(), was, sameCell) {
				t.Fatal("Push changes what it is handed", l, l.Row.Cells(), was)
			}
			hold(t, s, h)
			all = append(all, l)
			for _, l := range all {
				scribble(l.Row)
				hold(t, s, h)
			}
		}
		s.Clear()
		h.do(step{kind: "Clear"})
		for _, l := range all {
			follow(t, s, h, step{kind: "Push", n: l.ID, r: l.Row})
		}
	}
}

// TestOwnMemory: what At tells may be written over, and stays as it is when the
// scrollback changes.
func TestOwnMemory(t *testing.T) {
	s, h := made(t, 2, fresh(1), push(1, "aBc"), fresh(2), push(2, "Dd"))
	for i := range 2 {
		told, _ := s.At(i)
		other, _ := s.At(i)
		want, _ := h.at(i)
		for c := range told.Cells {
			for m := range told.Cells[c].Comb {
				told.Cells[c].Comb[m] = 7
			}
			told.Cells[c] = api.Cell{R: 7, Comb: append(told.Cells[c].Comb, 7)}
		}
		told.Cells = append(told.Cells[:0], api.Cell{})
		hold(t, s, h)
		if !sameHeld(other, want) {
			t.Fatal("two answers share memory", other, want)
		}
	}
	told, _ := s.At(0)
	want, _ := h.at(0)
	for range 3 {
		follow(t, s, h, push(1, "xyz"))
	}
	follow(t, s, h, step{kind: "Clear"})
	if !sameHeld(told, want) {
		t.Fatal("what was told has changed", told, want)
	}
}

// TestCopy: it is the same, and goes its own way, as the first one does.
func TestCopy(t *testing.T) {
	steps := []step{fresh(3), push(1, "xY"), push(2, "z"), push(2, "w"), fresh(1), push(3, "v"), {kind: "Clear"}, push(1, "u"), push(1, "t")}
	for most := range 5 {
		for n := range 7 {
			first, h := made(t, most, fresh(1), fresh(1))
			for i := range n {
				follow(t, first, h, push(1+i%2, string(rune('a'+i))))
			}
			for _, x := range steps {
				one, other, own := first.Copy(), first.Copy(), h.copied()
				hold(t, one, h)
				advance(t, one, own, x)
				hold(t, one, own, x)
				hold(t, first, h, x)
				hold(t, other, h, x)
				third, its := one.Copy(), own.copied()
				for _, x := range steps {
					advance(t, one, own, x)
					hold(t, one, own, x)
					hold(t, third, its, x)
				}
				for _, x := range steps {
					advance(t, third, its, x)
					hold(t, third, its, x)
				}
				hold(t, one, own, x)
				hold(t, first, h, x)
				hold(t, other, h, x)
			}
		}
	}
}

// TestAskingLeavesIt: to ask changes nothing.
func TestAskingLeavesIt(t *testing.T) {
	s, h := made(t, 2, fresh(1), push(1, "a"), push(1, "b"), push(1, "c"))
	for range 3 {
		for _, n := range append([]int{-1, 0, 1, 2, 3}, far...) {
			s.At(n)
			s.Find(n)
			s.Cap()
			s.Next()
			s.Len()
			s.Copy()
		}
		hold(t, s, h)
	}
}
