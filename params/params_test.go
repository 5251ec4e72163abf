package params_test

import (
	"math"
	"slices"
	"strconv"
	"strings"
	"testing"

	"tactile/api"
	"tactile/params"
)

// far are indexes that no list has.
var far = []int{-1, math.MinInt, api.MaxParams, api.MaxParams + 1, math.MaxInt}

// hold holds all that a list tells against the numbers that it should have.
func hold(t *testing.T, about string, l *params.List, numbers []int) {
	t.Helper()
	if l.Len() != len(numbers) {
		t.Errorf("%s: Len %d, not %d", about, l.Len(), len(numbers))
	}
	if v := l.Values(); !slices.Equal(v, numbers) {
		t.Errorf("%s: Values %v, not %v", about, v, numbers)
	}
	for _, none := range []int{0, 1, -7} {
		for i, n := range numbers {
			if n == 0 {
				n = none
			}
			if got := l.At(i, none); got != n {
				t.Errorf("%s: At(%d, %d) %d, not %d", about, i, none, got, n)
			}
		}
		for _, i := range append([]int{len(numbers)}, far...) {
			if got := l.At(i, none); got != none {
				t.Errorf("%s: At(%d, %d) %d", about, i, none, got)
			}
		}
	}
}

// examples are the document's own, and the edges that its words name.
var examples = []struct {
	steps   string
	numbers []int
}{
	{"", nil},
	{"38;5", []int{38, 5}},
	{";", []int{0, 0}},
	{"999999", []int{65535}},
	{"0", []int{0}},
	{"007", []int{7}},
	{"7;", []int{7, 0}},
	{";7", []int{0, 7}},
	{";;", []int{0, 0, 0}},
	{"65535", []int{65535}},
	{"65536", []int{65535}},
	{"6553;5", []int{6553, 5}},
	{"655350", []int{65535}},
	{"65535000000000000000000000", []int{65535}},
	{"99999;1", []int{65535, 1}},
	{"-", nil},
	{"+", nil},
	{"1-2", []int{12}},
	{"1+2", []int{12}},
	{"c", nil},
	{"12;3c", nil},
	{"12;3c4", []int{4}},
	{"12;3c;", []int{0, 0}},
}

func TestExamples(t *testing.T) {
	for _, x := range examples {
		hold(t, x.steps, told(x.steps), x.numbers)
	}
}

// TestEveryRow holds a list against the document after each row of up to five
// steps.
func TestEveryRow(t *testing.T) {
	for length := range 6 {
		everyRow(length, func(row string) { hold(t, row, told(row), says(row)) })
	}
}

// TestEveryNumber tells each number digit by digit, and some that are too
// great, alone and as the last of two.
func TestEveryNumber(t *testing.T) {
	for n := range 200000 {
		digits := strconv.Itoa(n)
		want := min(n, 65535)
		if got := told(digits).Values(); !slices.Equal(got, []int{want}) {
			t.Fatalf("%s: %v", digits, got)
		}
		if got := told("4;" + digits).Values(); !slices.Equal(got, []int{4, want}) {
			t.Fatalf("4;%s: %v", digits, got)
		}
	}
}

// TestWrongDigits: what is no digit does nothing, to no list.
func TestWrongDigits(t *testing.T) {
	wrong := []int{-1, -5, 10, 11, '0', '9', 256, math.MinInt, math.MaxInt}
	for _, steps := range []string{"", "7", "7;", "7;8", ";", strings.Repeat(";", 40)} {
		for _, d := range wrong {
			l := told(steps)
			l.Digit(d)
			hold(t, steps+" "+strconv.Itoa(d), l, says(steps))
			tell(l, '3')
			hold(t, steps+" "+strconv.Itoa(d)+" 3", l, says(steps+"3"))
		}
	}
}

// TestBound goes through lists about as long as may be: at the last place
// digits count, till a Next was too many.
func TestBound(t *testing.T) {
	for nexts := 28; nexts < 40; nexts++ {
		full := "12" + strings.Repeat(";3", nexts)
		empty := strings.Repeat(";", nexts)
		for _, begin := range []string{full, empty} {
			for _, rest := range []string{"", "4", "45", ";4", ";4;5", "-", "+", "4c", "c6", ";4c6;7", "c" + full, "c" + empty + "8"} {
				steps := begin + rest
				hold(t, steps, told(steps), says(steps))
			}
		}
	}
	last := told(strings.Repeat(";", 31))
	last.Digit(9)
	if last.Len() != 32 || last.At(31, 0) != 9 {
		t.Error("the last place", last.Values())
	}
	last.Next()
	last.Digit(9)
	last.Next()
	last.Digit(9)
	if last.Len() != 32 || last.At(31, 0) != 9 {
		t.Error("behind the last place", last.Values())
	}
	last.Clear()
	last.Digit(8)
	if !slices.Equal(last.Values(), []int{8}) {
		t.Error("cleared", last.Values())
	}
}

// TestNeverShrinks: a list has no fewer numbers than before, but by Clear.
func TestNeverShrinks(t *testing.T) {
	l := params.New()
	for i, before := 0, 0; i < 500; i++ {
		tell(l, "01;-9;+"[i%7])
		if l.Len() < before || l.Len() > api.MaxParams {
			t.Fatal("step", i, before, l.Len())
		}
		before = l.Len()
	}
}

// TestClearForgets: nothing of a list that was cleared comes up again.
func TestClearForgets(t *testing.T) {
	for _, before := range []string{"", "7", "1;2;3", strings.Repeat("9;", 50)} {
		for _, behind := range []string{"", "5", ";", ";;;6", strings.Repeat(";", 31), strings.Repeat(";2", 40)} {
			hold(t, before+"c"+behind, told(before+"c"+behind), says(behind))
		}
	}
}

// TestCopy: a copy is just like its list, and neither is moved by the other.
func TestCopy(t *testing.T) {
	ends := []string{"", "4", ";", ";5", "c", "c6", "-"}
	for _, begin := range []string{"", "0", "7", "38;5", ";", strings.Repeat(";1", 31), strings.Repeat(";1", 32)} {
		for _, one := range ends {
			for _, other := range ends {
				l := told(begin)
				c := l.Copy()
				hold(t, begin+" copied", c, says(begin))
				for i := range max(len(one), len(other)) {
					if i < len(one) {
						tell(l, one[i])
					}
					if i < len(other) {
						tell(c, other[i])
					}
				}
				hold(t, begin+" copied, then "+one, l, says(begin+one))
				hold(t, begin+" copy, then "+other, c, says(begin+other))
			}
		}
	}
}

// TestOwnMemory: what Values told is neither the list's nor another answer's.
func TestOwnMemory(t *testing.T) {
	for _, steps := range []string{"", "7", "1;2", strings.Repeat("3;", 31), strings.Repeat("3;", 40)} {
		l := told(steps)
		a, b := l.Values(), l.Values()
		for i := range a {
			a[i] = -1
		}
		a = append(a[:cap(a)], -2)
		for i := range a {
			a[i] = -3
		}
		if !slices.Equal(b, says(steps)) {
			t.Error(steps, "the other answer", b)
		}
		hold(t, steps+" behind an answer that was changed", l, says(steps))
		for _, step := range []byte(";4") {
			tell(l, step)
		}
		if !slices.Equal(b, says(steps)) {
			t.Error(steps, "an answer, after more was told", b)
		}
		hold(t, steps+";4", l, says(steps+";4"))
	}
}

// TestAppended: what is put behind an answer does not come into the list.
func TestAppended(t *testing.T) {
	l := told("1;2")
	_ = append(l.Values(), 9, 9, 9)
	l.Next()
	hold(t, "1;2;", l, []int{1, 2, 0})
}

// TestNotThere: a list that is not there is asked, and told, in vain.
func TestNotThere(t *testing.T) {
	var l *params.List
	for i := range len(steps) {
		tell(l, steps[i])
		hold(t, "not there", l, nil)
	}
	if l.Copy() != nil {
		t.Error("a copy of none")
	}
}

// TestZero: a zero list is as a new one, whatever is told to it first.
func TestZero(t *testing.T) {
	everyRow(3, func(row string) {
		var l params.List
		hold(t, "zero", &l, nil)
		hold(t, "zero, copied", l.Copy(), nil)
		for i := range len(row) {
			tell(&l, row[i])
		}
		hold(t, "zero "+row, &l, says(row))
	})
}

// TestApart: two lists have nothing of one another.
func TestApart(t *testing.T) {
	a, b := params.New(), params.New()
	if a == b {
		t.Fatal("one list")
	}
	for i := range 64 {
		tell(a, "12;"[i%3])
		hold(t, "the other one", b, nil)
	}
}
