package typed_test

import (
	"math"
	"math/rand"
	"slices"
	"testing"

	"tactile/api"
	"tactile/typed"
)

// far are moments beyond all ticks.
var far = []int{math.MinInt, math.MinInt + 1, -maxTick, -1 << 32, -1001, -1, maxTick + 1, maxTick + 999, maxTick + 1000, maxTick + 1001, 1 << 41, math.MaxInt - 1, math.MaxInt}

// runes are some of all kinds, and numbers that are none.
var runes = []int32{0, 1, 8, 32, 'a', 'b', 'A', 0x7f, 0x80, 0x301, 0x4e00, 0xd800, 0xdfff, 0xfffd, 0x10000, 0x10ffff, 0x110000, -1, -'a', math.MinInt32, math.MaxInt32}

// made is a list with a life, and its paper, after some steps.
func made(t *testing.T, life int, steps ...step) (*typed.List, *paper) {
	t.Helper()
	l, err := typed.New(life)
	if l == nil || err != api.OK {
		t.Fatal(life, err)
	}
	p := &paper{life: life}
	for i, s := range steps {
		advance(t, l, p, s, steps[:i]...)
	}
	return l, p
}

// follow does a step to both, and holds them against each other.
func follow(t *testing.T, l *typed.List, p *paper, s step, behind ...step) {
	t.Helper()
	advance(t, l, p, s, behind...)
	hold(t, l, p, append(slices.Clone(behind), s)...)
}

// advance does a step to both, and holds what it answers.
func advance(t *testing.T, l *typed.List, p *paper, s step, behind ...step) {
	t.Helper()
	if got, want := s.on(l), p.do(s); got != want {
		t.Fatalf("life %d, %v: %v: %v, not %v", p.life, behind, s, got, want)
	}
}

// hold holds what waits about each tick at which that may change, and far off.
func hold(t *testing.T, l *typed.List, p *paper, behind ...step) {
	t.Helper()
	moments := []int{0, p.greatest - 1, p.greatest, p.greatest + 1, p.greatest + p.life - 1, p.greatest + p.life, maxTick, maxTick + p.life - 1}
	for _, n := range p.left() {
		moments = append(moments, n.tick+p.life-1, n.tick+p.life)
	}
	slices.Sort(moments)
	holdAt(t, l, p, slices.Compact(moments), behind...)
	holdAt(t, l, p, far, behind...)
	holdAt(t, l, p, []int{p.greatest}, behind...)
}

// holdAt holds what waits at some moments.
func holdAt(t *testing.T, l *typed.List, p *paper, moments []int, behind ...step) {
	t.Helper()
	for _, now := range moments {
		if got, want := l.Waits(now), p.waits(now); !slices.Equal(got, want) {
			t.Fatalf("life %d, %v: at %d wait %v, not %v", p.life, behind, now, got, want)
		}
	}
}

// row is so many steps: the runes from one on, typed at one tick.
func row(from int32, n, now int) []step {
	var steps []step
	for i := range n {
		steps = append(steps, step{"Type", from + int32(i), now})
	}
	return steps
}

// span is so many runes from one on.
func span(from int32, n int) []int32 {
	var all []int32
	for i := range n {
		all = append(all, from+int32(i))
	}
	return all
}

// TestExamples: the chapter's.
func TestExamples(t *testing.T) {
	l, _ := typed.New(5)
	l.Type('a', 0)
	l.Type('b', 3)
	other := l.Copy()
	if l.Take('b', 4) || !l.Take('a', 4) {
		t.Error("b is taken ahead of a, or a is not")
	}
	if !other.Take('b', 5) {
		t.Error("a is awaited for longer than its life")
	}
}

// TestNew: each life, those that may not be, too.
func TestNew(t *testing.T) {
	for _, life := range append([]int{-1000, -2, -1, 0, 1001, 1002, 1 << 32, 1<<32 + 5}, far...) {
		if l, err := typed.New(life); l != nil || err != api.ErrArg {
			t.Error(life, l, err)
		}
	}
	for life := 1; life <= 1000; life++ {
		l, p := made(t, life)
		if len(l.Waits(0)) != 0 {
			t.Fatal(life, l.Waits(0))
		}
		hold(t, l, p)
		follow(t, l, p, step{"Type", 'a', 7})
		for _, now := range []int{7, 7 + life - 1} {
			if !slices.Equal(l.Waits(now), []int32{'a'}) || !l.Copy().Take('a', now) {
				t.Fatal(life, "is over too early")
			}
		}
		if len(l.Waits(7+life)) != 0 || l.Take('a', 7+life) {
			t.Fatal(life, "is over too late")
		}
	}
}

// TestTold: what is typed, taken and waits, told outright.
func TestTold(t *testing.T) {
	for _, x := range []struct {
		steps []step
		now   int
		taken []bool
		waits []int32
	}{
		{nil, 0, nil, nil},
		{[]step{{"Take", 'a', 0}}, 0, []bool{false}, nil},
		{[]step{{"Take", 0, 0}}, 0, []bool{false}, nil},
		{[]step{{"Type", 'a', 0}}, 0, nil, []int32{'a'}},
		{[]step{{"Type", 'a', 0}}, 4, nil, []int32{'a'}},
		{[]step{{"Type", 'a', 0}}, 5, nil, nil},
		{[]step{{"Type", 'a', 0}, {"Take", 'a', 4}}, 4, []bool{true}, nil},
		{[]step{{"Type", 'a', 0}, {"Take", 'a', 5}}, 5, []bool{false}, nil},
		{[]step{{"Type", 'a', 0}, {"Take", 'a', 5}, {"Take", 'a', 0}}, 0, []bool{false, false}, nil},
		{[]step{{"Type", 'a', 0}, {"Take", 'b', 0}}, 0, []bool{false}, []int32{'a'}},
		{[]step{{"Type", 'a', 0}, {"Type", 'b', 0}, {"Take", 'b', 0}}, 0, []bool{false}, []int32{'a', 'b'}},
		{[]step{{"Type", 'a', 0}, {"Type", 'b', 0}, {"Take", 'a', 0}}, 0, []bool{true}, []int32{'b'}},
		{[]step{{"Type", 'a', 0}, {"Type", 'b', 0}, {"Take", 'a', 0}, {"Take", 'b', 0}}, 0, []bool{true, true}, nil},
		{[]step{{"Type", 'a', 0}, {"Type", 'b', 1}, {"Take", 'b', 5}}, 5, []bool{true}, nil},
		{[]step{{"Type", 'a', 0}, {"Type", 'b', 1}, {"Take", 'b', 6}}, 6, []bool{false}, nil},
		{[]step{{"Type", 'a', 0}, {"Type", 'b', 1}, {"Take", 'x', 5}}, 0, []bool{false}, []int32{'b'}},
		{[]step{{"Type", 'a', 0}, {"Type", 'a', 3}, {"Take", 'a', 4}}, 4, []bool{true}, []int32{'a'}},
		{[]step{{"Type", 'a', 0}, {"Type", 'a', 3}, {"Take", 'a', 5}}, 5, []bool{true}, nil},
		{[]step{{"Type", 'a', 0}, {"Type", 'a', 0}, {"Take", 'a', 0}, {"Take", 'a', 0}, {"Take", 'a', 0}}, 0, []bool{true, true, false}, nil},
		{[]step{{"Type", 'a', 9}, {"Type", 'b', 2}}, 13, nil, []int32{'a', 'b'}},
		{[]step{{"Type", 'a', 9}, {"Type", 'b', 2}}, 14, nil, nil},
		{[]step{{"Type", 'a', 9}, {"Take", 'a', 0}}, 0, []bool{true}, nil},
		{[]step{{"Type", 'a', 9}, {"Take", 'x', 20}, {"Type", 'b', 3}}, 24, []bool{false}, []int32{'b'}},
		{[]step{{"Type", 'a', 9}, {"Take", 'x', 20}, {"Type", 'b', 3}}, 25, []bool{false}, nil},
		{[]step{{"Type", 'a', -9}}, 4, nil, []int32{'a'}},
		{[]step{{"Type", 'a', -9}}, 5, nil, nil},
		{[]step{{"Type", 'a', 9}, {"Clear", 0, 0}}, 9, nil, nil},
		{[]step{{"Type", 'a', 9}, {"Clear", 0, 0}, {"Take", 'a', 9}}, 9, []bool{false}, nil},
		{[]step{{"Type", 'a', 9}, {"Clear", 0, 0}, {"Type", 'b', 3}}, 13, nil, []int32{'b'}},
		{[]step{{"Type", 'a', 9}, {"Clear", 0, 0}, {"Type", 'b', 3}}, 14, nil, nil},
		{[]step{{"Clear", 0, 0}, {"Type", 'b', 3}}, 7, nil, []int32{'b'}},
		{[]step{{"Type", 'a', maxTick}}, maxTick, nil, []int32{'a'}},
		{[]step{{"Type", 'a', maxTick}}, maxTick + 4, nil, []int32{'a'}},
		{[]step{{"Type", 'a', maxTick}}, maxTick + 5, nil, nil},
		{[]step{{"Type", 'a', maxTick + 9}}, maxTick + 4, nil, []int32{'a'}},
		{[]step{{"Type", 'a', maxTick + 9}}, maxTick + 5, nil, nil},
		{[]step{{"Type", 'a', maxTick}, {"Take", 'a', maxTick + 5}}, 0, []bool{true}, nil},
		{[]step{{"Type", 'a', maxTick - 4}, {"Take", 'a', math.MaxInt}}, 0, []bool{true}, nil},
		{[]step{{"Type", 'a', maxTick - 5}, {"Take", 'a', math.MaxInt}}, 0, []bool{false}, nil},
	} {
		l, _ := typed.New(5)
		var taken []bool
		for _, s := range x.steps {
			if got := s.on(l); s.kind == "Take" {
				taken = append(taken, got)
			}
		}
		if got := l.Waits(x.now); !slices.Equal(got, x.waits) || !slices.Equal(taken, x.taken) {
			t.Errorf("%v: %v, and at %d wait %v, not %v, %v", x.steps, taken, x.now, got, x.taken, x.waits)
		}
	}
}

// TestEveryRow: all rows of a few steps, of short lives.
func TestEveryRow(t *testing.T) {
	steps := []step{{"Clear", 0, 0}, {"Type", 'b', 1}, {"Take", 'b', 1}}
	for now := range 4 {
		steps = append(steps, step{"Type", 'a', now}, step{"Take", 'a', now})
	}
	var each func(l *typed.List, p *paper, behind []step)
	each = func(l *typed.List, p *paper, behind []step) {
		if len(behind) == 5 {
			return
		}
		for _, s := range steps {
			one, its := l.Copy(), p.copied()
			advance(t, one, its, s, behind...)
			holdAt(t, one, its, []int{0, 2, 3, 4, 5, 6}, append(behind, s)...)
			each(one, its, append(behind, s))
		}
	}
	for life := 1; life <= 3; life++ {
		l, p := made(t, life)
		each(l, p, nil)
	}
}

// TestEachNumber: so many runes as may be, and more of them; each step behind
// each number.
func TestEachNumber(t *testing.T) {
	for n := range 3*maxTyped + 3 {
		steps := row(1000, n, 3)
		l, p := made(t, 5, steps...)
		gone := int32(max(n-maxTyped, 0))
		want := span(1000+gone, min(n, maxTyped))
		if got := l.Waits(3); !slices.Equal(got, want) {
			t.Fatal(n, got)
		}
		hold(t, l, p, steps...)
		for _, r := range []int32{999, 1000 + gone - 1, 1000 + gone, 1000 + gone + 1, 1000 + int32(n) - 1, 1000 + int32(n)} {
			for _, s := range []step{{"Take", r, 3}, {"Take", r, 7}, {"Take", r, 8}, {"Type", r, 0}, {"Type", r, 7}, {"Type", r, 8}, {"Clear", 0, 0}} {
				one, its := l.Copy(), p.copied()
				follow(t, one, its, s, steps...)
				follow(t, one, its, step{"Type", r, 8}, s)
				follow(t, one, its, step{"Take", r, 8}, s)
			}
		}
		for i, r := range want {
			if !l.Take(r, 7) || !slices.Equal(l.Waits(0), want[i+1:]) {
				t.Fatal(n, r, "is not taken in its turn")
			}
		}
		if l.Take(1000, 7) {
			t.Fatal(n, "one that is not there is taken")
		}
	}
}

// TestPlaces: lists of each length, from each place of the ring on.
func TestPlaces(t *testing.T) {
	for start := range maxTyped {
		for _, n := range []int{0, 1, 2, 31, 32, 33, 62, 63, 64, 65, 66, 127, 128, 129} {
			l, p := made(t, 100)
			for i := range start {
				advance(t, l, p, step{"Type", int32(i), 0})
				advance(t, l, p, step{"Take", int32(i), 0})
			}
			for i := range n {
				advance(t, l, p, step{"Type", int32(500 + i), i / 20})
			}
			hold(t, l, p)
			one, its := l.Copy(), p.copied()
			for _, r := range p.waits(0) {
				advance(t, l, p, step{"Take", r, 0})
				holdAt(t, l, p, []int{0})
			}
			follow(t, one, its, step{"Take", 'x', 101})
			follow(t, one, its, step{"Type", 'x', 102})
			for _, r := range its.waits(0) {
				advance(t, one, its, step{"Take", r, 0})
				holdAt(t, one, its, []int{0})
			}
		}
	}
}

// TestOutlived: those that are awaited no more go ahead of one that is, however
// many they are, and they do not come back.
func TestOutlived(t *testing.T) {
	for _, old := range []int{0, 1, 2, 3, 31, 32, 62, 63, 64, 65} {
		for _, young := range []int{0, 1, 2, 63, 64, 65} {
			steps := append(row(1000, old, 0), row(2000, young, 1)...)
			for _, now := range []int{9, 10, 11} {
				for _, r := range []int32{999, 1000, 1001, 2000, 2001, 2002, 2064} {
					l, p := made(t, 10, steps...)
					follow(t, l, p, step{"Take", r, now}, steps...)
					follow(t, l, p, step{"Take", 2000, 0}, steps...)
					follow(t, l, p, step{"Type", 3000, 9}, steps...)
				}
			}
		}
	}
}

// TestTicks: a moment below the greatest tick so far, and one above MaxTick,
// of each call.
func TestTicks(t *testing.T) {
	moments := append([]int{0, 1, 2, 4, 5, 6, 9, 10, 100, 1000, maxTick - 1000, maxTick - 6, maxTick - 5, maxTick - 4, maxTick - 1, maxTick}, far...)
	for _, first := range moments {
		for _, second := range moments {
			for _, third := range moments {
				l, p := made(t, 5)
				one := step{"Type", 'a', first}
				advance(t, l, p, one)
				two := step{"Type", 'b', second}
				if third%2 == 0 {
					two.kind = "Take"
				}
				advance(t, l, p, two, one)
				holdAt(t, l, p, moments, one, two)
				for _, kind := range []string{"Type", "Take"} {
					for _, r := range []int32{'a', 'b'} {
						s := step{kind, r, third}
						own, its := l.Copy(), p.copied()
						advance(t, own, its, s, one, two)
						holdAt(t, own, its, []int{0, first, second, third, maxTick, maxTick + 4, maxTick + 5}, one, two, s)
					}
				}
			}
		}
	}
}

// TestRunes: each number is what it is, a rune or not.
func TestRunes(t *testing.T) {
	for _, r := range runes {
		for _, other := range runes {
			l, p := made(t, 5, step{"Type", r, 0})
			follow(t, l, p, step{"Take", other, 0})
			if len(l.Waits(0)) == 0 != (r == other) {
				t.Error(r, other)
			}
		}
	}
}

// TestClear: of none and of some, and what comes behind it.
func TestClear(t *testing.T) {
	for _, n := range []int{0, 1, 2, 63, 64, 65, 100} {
		for _, now := range []int{0, 3, maxTick} {
			steps := row(1000, n, now)
			l, p := made(t, 5, steps...)
			follow(t, l, p, step{kind: "Clear"}, steps...)
			if len(l.Waits(0)) != 0 || l.Take(1000, 0) {
				t.Fatal(n, now, "are not clear")
			}
			follow(t, l, p, step{kind: "Clear"}, steps...)
			for i := range 70 {
				follow(t, l, p, step{"Type", int32(i), i / 20}, steps...)
			}
			for i := range 70 {
				follow(t, l, p, step{"Take", int32(i), 4}, steps...)
			}
		}
	}
}

// TestWaitsLeaveIt: to ask changes nothing, at whatever moment.
func TestWaitsLeaveIt(t *testing.T) {
	for _, n := range []int{0, 1, 5, 64} {
		l, p := made(t, 5, append(row(1000, n, 2), row(1005, n, 4)...)...)
		for _, now := range append([]int{0, 2, 6, 7, 9, maxTick}, far...) {
			l.Waits(now)
			hold(t, l, p)
			one, its := l.Copy(), p.copied()
			follow(t, one, its, step{"Type", 'a', 5})
			follow(t, one, its, step{"Take", 1000, 5})
		}
	}
}

// TestOwnMemory: what waits may be written over, and stays as it is when the
// list changes.
func TestOwnMemory(t *testing.T) {
	for _, n := range []int{1, 2, 3, 33, 64, 100} {
		l, p := made(t, 5, row(1000, n, 2)...)
		told, other := l.Waits(2), l.Waits(2)
		whole := told[:cap(told)]
		for i := range whole {
			whole[i] = -7
		}
		hold(t, l, p)
		if want := p.waits(2); !slices.Equal(other, want) {
			t.Fatal(n, "two lists share memory")
		}
		was := slices.Clone(other)
		for _, s := range []step{{"Take", was[0], 3}, {"Type", 'a', 3}, {"Type", 'b', 3}, {"Clear", 0, 0}, {"Type", 'c', 3}} {
			follow(t, l, p, s)
			if !slices.Equal(other, was) {
				t.Fatal(n, s, "changes what was told")
			}
		}
	}
}

// TestCopy: it is just like it, and each goes its own way.
func TestCopy(t *testing.T) {
	ways := []step{{"Type", 'x', 4}, {"Take", 1000, 4}, {"Take", 1001, 8}, {"Clear", 0, 0}, {"Type", 'y', 0}, {"Take", 'x', maxTick}}
	for _, n := range []int{0, 1, 2, 63, 64, 65, 100} {
		first, p := made(t, 5, row(1000, n, 2)...)
		for _, s := range ways {
			one, its := first.Copy(), p.copied()
			if one == first {
				t.Fatal("it is no other one")
			}
			hold(t, one, its)
			follow(t, one, its, s)
			hold(t, first, p, s)
			third, thirds := one.Copy(), its.copied()
			for _, more := range ways {
				follow(t, one, its, more, s)
				hold(t, third, thirds, s)
			}
			hold(t, first, p, s)
			other, others := first.Copy(), p.copied()
			follow(t, first, p, s)
			hold(t, other, others, s)
		}
	}
}

// TestNothing: a list that is not there, and a zero one.
func TestNothing(t *testing.T) {
	for _, l := range []*typed.List{nil, {}, new(typed.List)} {
		for _, now := range append([]int{0, 1, 1000, maxTick}, far...) {
			for _, r := range runes {
				l.Type(r, now)
				if l.Take(r, now) {
					t.Error(r, now, "is taken")
				}
			}
			l.Clear()
			if l.Waits(now) != nil || l.Copy() != nil {
				t.Error(l.Waits(now), l.Copy())
			}
		}
	}
}

// TestLong: long drawn rows of steps; what is taken was typed, in that order,
// not longer ago than a life.
func TestLong(t *testing.T) {
	draw := rand.New(rand.NewSource(14))
	for round := range 90 {
		life := 1 + draw.Intn(12)
		if round%10 == 0 {
			life = 1 + draw.Intn(1000)
		}
		l, p := made(t, life)
		var typedAt []step
		behind := 0
		for range 600 {
			s := drawn(draw, p, round%3)
			took := s.on(l)
			if want := p.do(s); took != want {
				t.Fatal(s, took, want)
			}
			hold(t, l, p, s)
			if s.kind == "Type" {
				typedAt = append(typedAt, step{"Type", s.r, p.greatest})
			}
			if took {
				for behind < len(typedAt) && (typedAt[behind].r != s.r || typedAt[behind].now+life <= p.greatest) {
					behind++
				}
				if behind == len(typedAt) {
					t.Fatal(s, "was not typed in that order, within a life")
				}
				behind++
			}
		}
	}
}

// drawn is a step: the more often typed, the fuller the list is.
func drawn(draw *rand.Rand, p *paper, fill int) step {
	now := p.greatest + draw.Intn(3) - 1
	switch draw.Intn(30) {
	case 0:
		now += draw.Intn(p.life + 2)
	case 1:
		now -= draw.Intn(20)
	}
	s := step{"Type", int32('a' + draw.Intn(3)), now}
	switch pick := draw.Intn(100); {
	case pick == 0:
		s = step{kind: "Clear"}
	case pick < 60-25*fill:
		s.kind = "Take"
		if left := p.left(); len(left) > 0 && draw.Intn(4) > 0 {
			s.r = left[draw.Intn(len(left))].r
		}
	}
	return s
}
