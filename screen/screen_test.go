package screen_test

import (
	"fmt"
	"math"
	"slices"
	"testing"

	"tactile/api"
	"tactile/lines"
	"tactile/row"
	"tactile/screen"
)

// ink is what lines come with: of it the ground alone is left.
var ink = api.Attr{Fg: 77, Bg: 5, Flags: api.Bold | api.Strike}

// far are numbers beyond any screen.
var far = []int{math.MinInt, math.MinInt + 1, -1 << 32, -513, 513, 1 << 32, math.MaxInt - 1, math.MaxInt}

// A pair is a screen with its store, and the paper that it is held against.
type pair struct {
	t *testing.T
	x *screen.Screen
	s *lines.Store
	p *paper
}

// made is a pair whose lines are all written on, each in its own way.
func made(t *testing.T, rows, cols, most int, keeps bool) *pair {
	t.Helper()
	s, _ := lines.New(most)
	x, err := screen.New(rows, cols, s, keeps)
	if x == nil || err != api.OK {
		t.Fatal(rows, cols, err)
	}
	d := &pair{t, x, s, newPaper(rows, cols, most, 0, keeps)}
	for i := range rows {
		d.write(i)
	}
	return d
}

// write writes on a row of both.
func (d *pair) write(i int) {
	id := d.p.page[i].ID
	for _, r := range []*row.Row{d.x.Row(i), d.p.page[i].Row} {
		r.Put(0, int32('a'+id%26), false, api.Attr{Fg: uint32(id)})
		r.Join(0, 0x301)
		r.Put(1, 0x4e00, true, api.Attr{Bg: uint32(id)})
		r.Put(r.Len()-1, int32('A'+id%26), false, ink)
	}
}

// follow does steps to both, and holds them against each other.
func (d *pair) follow(all ...step) {
	d.t.Helper()
	for _, s := range all {
		got, err := s.on(d.x)
		want, wrong := d.p.do(s)
		if got != want || err != wrong {
			d.t.Fatalf("%v: %d, %d, not %d, %d", s, got, err, want, wrong)
		}
		d.hold(s)
	}
}

// hold holds a screen and its store against the paper.
func (d *pair) hold(after ...step) {
	d.t.Helper()
	x, p := d.x, d.p
	top, bottom := x.Margins()
	if x.Rows() != len(p.page) || x.Cols() != p.cols || top != p.top || bottom != p.bottom {
		d.t.Fatalf("%v: %d rows, %d columns, %d to %d, not %d, %d, %d to %d", after, x.Rows(), x.Cols(), top, bottom, len(p.page), p.cols, p.top, p.bottom)
	}
	for i, l := range p.page {
		if x.ID(i) != l.ID || x.Find(l.ID) != i || !sameCells(x.Row(i).Cells(), l.Row.Cells()) {
			d.t.Fatalf("%v: row %d: id %d, found in %d, %v, not %d, %v", after, i, x.ID(i), x.Find(l.ID), x.Row(i).Cells(), l.ID, l.Row.Cells())
		}
	}
	d.holdStore(after...)
}

// holdStore holds the store against what the paper has pushed.
func (d *pair) holdStore(after ...step) {
	d.t.Helper()
	if d.s.Next() != d.p.told+1 || d.s.Len() != len(d.p.pushed) {
		d.t.Fatalf("%v: next %d, %d lines, not %d, %d", after, d.s.Next(), d.s.Len(), d.p.told+1, len(d.p.pushed))
	}
	for i, want := range d.p.pushed {
		got, err := d.s.At(i)
		if err != api.OK || got.ID != want.ID || !sameCells(got.Cells, want.Cells) {
			d.t.Fatalf("%v: pushed %d: %v, not %v", after, i, got, want)
		}
	}
}

// ids are a screen's, from the top on.
func ids(x *screen.Screen) (all []int) {
	for i := range x.Rows() {
		all = append(all, x.ID(i))
	}
	return all
}

// Steps by their names.
func up(n int) step                { return step{kind: "Up", n: n, a: ink} }
func down(n int) step              { return step{kind: "Down", n: n, a: ink} }
func insert(at, n int) step        { return step{kind: "InsertLines", n: at, m: n, a: ink} }
func remove(at, n int) step        { return step{kind: "DeleteLines", n: at, m: n, a: ink} }
func margins(top, bottom int) step { return step{kind: "SetMargins", n: top, m: bottom} }
func resize(rows, cols, y int) step {
	return step{kind: "Resize", n: rows, m: cols, y: y}
}

// eachMargins calls do with all margins that a screen of so many rows may have.
func eachMargins(rows int, do func(top, bottom int)) {
	do(0, rows-1)
	for top := range rows {
		for bottom := top + 1; bottom < rows; bottom++ {
			do(top, bottom)
		}
	}
}

// TestExamples: the document's own, each on a screen of its own, told outright.
func TestExamples(t *testing.T) {
	for _, e := range []struct {
		steps  []step
		ids    []int
		told   int
		pushed []int
	}{
		{[]step{up(1)}, []int{2, 3, 4, 5}, 0, []int{1}},
		{[]step{margins(1, 2), down(1)}, []int{1, 5, 2, 4}, 0, nil},
		{[]step{remove(1, 2)}, []int{1, 4, 5, 6}, 0, nil},
		{[]step{resize(2, 3, 2)}, []int{2, 3}, 1, []int{1}},
	} {
		d := made(t, 4, 3, 10, true)
		told := 0
		for _, s := range e.steps {
			var err api.Errno
			if told, err = s.on(d.x); err != api.OK {
				t.Fatal(s, err)
			}
		}
		if !slices.Equal(ids(d.x), e.ids) || told != e.told || d.s.Len() != len(e.pushed) {
			t.Error(e.steps, ids(d.x), told, d.s.Len())
		}
		for i, id := range e.pushed {
			if l, err := d.s.At(i); l.ID != id || err != api.OK {
				t.Error(e.steps, l, err)
			}
		}
	}
}

// TestNew: of sizes about the bounds, and of those that may not be, with stores
// that are not there, too.
func TestNew(t *testing.T) {
	sizes := append([]int{-1, 0, 1, 2, 3, 80, 511, 512}, far...)
	for _, rows := range sizes {
		for _, cols := range sizes {
			s, _ := lines.New(3)
			for _, none := range []*lines.Store{nil, {}} {
				if x, err := screen.New(rows, cols, none, true); x != nil || err != api.ErrArg {
					t.Error(rows, cols, "without a store", x, err)
				}
			}
			if rows >= 1 && rows <= 512 && cols >= 1 && cols <= 512 {
				made(t, rows, cols, 3, true).hold()
				made(t, rows, cols, 0, false).hold()
			} else if x, err := screen.New(rows, cols, s, true); x != nil || err != api.ErrArg || s.Next() != 1 {
				t.Error(rows, cols, x, err, s.Next())
			}
		}
	}
}

// TestNewIsBlank: all cells are as nothing was written, and ids rise from the
// top on.
func TestNewIsBlank(t *testing.T) {
	s, _ := lines.New(3)
	s.Fresh(1, ink)
	x, err := screen.New(5, 4, s, true)
	if err != api.OK || !slices.Equal(ids(x), []int{2, 3, 4, 5, 6}) || s.Next() != 7 || s.Len() != 0 {
		t.Fatal(err, ids(x), s.Next(), s.Len())
	}
	for i := range 5 {
		if !sameCells(x.Row(i).Cells(), slices.Repeat([]api.Cell{{R: 32}}, 4)) {
			t.Error(i, x.Row(i).Cells())
		}
	}
	if top, bottom := x.Margins(); top != 0 || bottom != 4 {
		t.Error(top, bottom)
	}
}

// TestNoSuchRow: rows and ids that are not there.
func TestNoSuchRow(t *testing.T) {
	for rows := 1; rows <= 5; rows++ {
		d := made(t, rows, 3, 3, true)
		d.follow(up(2))
		for _, i := range append([]int{-2, -1, rows, rows + 1, 511, 512}, far...) {
			if d.x.Row(i) != nil || d.x.ID(i) != 0 {
				t.Error(rows, i, d.x.Row(i), d.x.ID(i))
			}
		}
		for _, id := range append([]int{-1, 0, d.p.told + 1, d.p.told + 2}, far...) {
			if d.x.Find(id) != -1 {
				t.Error(rows, id, d.x.Find(id))
			}
		}
		for id := range d.p.told + 1 {
			if d.x.Find(id) != d.p.find(id) {
				t.Error(rows, id, d.x.Find(id), d.p.find(id))
			}
		}
	}
}

// TestMargins: all pairs of rows, of those that may not be margins, too.
func TestMargins(t *testing.T) {
	for rows := 1; rows <= 6; rows++ {
		at := []int{math.MinInt, -513, 512, 513, math.MaxInt}
		for i := -2; i <= rows+2; i++ {
			at = append(at, i)
		}
		eachMargins(rows, func(top, bottom int) {
			for _, n := range at {
				for _, m := range at {
					d := made(t, rows, 2, 1, true)
					d.follow(margins(top, bottom), margins(n, m))
				}
			}
		})
	}
}

// TestMarginsTold: some of them outright.
func TestMarginsTold(t *testing.T) {
	for _, e := range []struct {
		rows, top, bottom int
		err               api.Errno
	}{
		{4, 0, 3, api.OK}, {4, 0, 1, api.OK}, {4, 2, 3, api.OK}, {4, 1, 2, api.OK},
		{4, 1, 1, api.ErrArg}, {4, 0, 0, api.ErrArg}, {4, 3, 3, api.ErrArg}, {4, 2, 1, api.ErrArg},
		{4, -1, 2, api.ErrArg}, {4, 0, 4, api.ErrArg}, {4, 3, 4, api.ErrArg}, {4, -1, 3, api.ErrArg},
		{1, 0, 0, api.OK}, {1, 0, 1, api.ErrArg}, {1, -1, 0, api.ErrArg}, {2, 0, 1, api.OK}, {2, 1, 1, api.ErrArg},
	} {
		d := made(t, e.rows, 2, 1, true)
		if err := d.x.SetMargins(e.top, e.bottom); err != e.err {
			t.Error(e, err)
		}
		want := []int{e.top, e.bottom}
		if e.err != api.OK {
			want = []int{0, e.rows - 1}
		}
		if top, bottom := d.x.Margins(); top != want[0] || bottom != want[1] {
			t.Error(e, top, bottom)
		}
	}
}

// TestEveryMove: each move, on all small screens with all margins, of those that
// keep and of those that do not, with each number of lines and each row.
func TestEveryMove(t *testing.T) {
	for rows := 1; rows <= 5; rows++ {
		many := []int{math.MinInt, -1, 511, 512, 513, math.MaxInt}
		for n := range rows + 3 {
			many = append(many, n)
		}
		var moves []step
		for _, n := range many {
			moves = append(moves, up(n), down(n))
			for at := -2; at <= rows+2; at++ {
				moves = append(moves, insert(at, n), remove(at, n))
			}
			for _, at := range far {
				moves = append(moves, insert(at, n), remove(at, n))
			}
		}
		eachMargins(rows, func(top, bottom int) {
			for _, keeps := range []bool{true, false} {
				for _, s := range moves {
					made(t, rows, 3, 3, keeps).follow(margins(top, bottom), s)
				}
			}
		})
	}
}

// TestEveryPath: all rows of a few steps.
func TestEveryPath(t *testing.T) {
	kinds := []step{
		up(1), up(2), down(1), down(2), insert(1, 1), insert(2, 5), remove(0, 1), remove(1, 2), insert(3, 1),
		margins(0, 1), margins(1, 2), margins(0, 2), margins(2, 1), resize(2, 3, 1), resize(3, 2, 2), resize(4, 4, 0), resize(0, 1, 0),
	}
	n := len(kinds)
	for path := range n * n * n {
		for _, keeps := range []bool{true, false} {
			d := made(t, 3, 3, 2, keeps)
			d.follow(kinds[path%n], kinds[path/n%n], kinds[path/n/n])
		}
	}
}

// TestPushed: which lines are pushed, and as what they were, outright.
func TestPushed(t *testing.T) {
	for _, e := range []struct {
		keeps bool
		most  int
		steps []step
		ids   []int
	}{
		{true, 9, []step{up(2)}, []int{1, 2}},
		{true, 9, []step{up(9)}, []int{1, 2, 3, 4}},
		{true, 2, []step{up(3)}, []int{2, 3}},
		{true, 0, []step{up(3)}, nil},
		{false, 9, []step{up(2)}, nil},
		{true, 9, []step{margins(0, 1), up(1)}, []int{1}},
		{true, 9, []step{margins(0, 1), up(5)}, []int{1, 2}},
		{true, 9, []step{margins(1, 3), up(1)}, nil},
		{true, 9, []step{up(0), up(-1)}, nil},
		{true, 9, []step{down(2)}, nil},
		{true, 9, []step{remove(0, 2)}, nil},
		{true, 9, []step{insert(0, 2)}, nil},
		{true, 9, []step{resize(2, 3, 3)}, []int{1, 2}},
		{true, 9, []step{resize(2, 3, 1)}, nil},
		{true, 9, []step{margins(1, 2), resize(2, 3, 3)}, []int{1, 2}},
		{false, 9, []step{resize(2, 3, 3)}, nil},
		{true, 9, []step{resize(6, 3, 3)}, nil},
		{true, 9, []step{resize(1, 3, 3)}, []int{1, 2, 3}},
	} {
		d := made(t, 4, 3, e.most, e.keeps)
		d.follow(e.steps...)
		if d.s.Len() != len(e.ids) {
			t.Fatal(e, d.s.Len())
		}
		for i, id := range e.ids {
			if l, err := d.s.At(i); l.ID != id || err != api.OK || l.Cells[0].R != int32('a'+id) || len(l.Cells) != 3 {
				t.Error(e, l, err)
			}
		}
	}
}

// TestFreshOnes: those that come look as they are told to, and those that a
// greater size brings are as nothing was written.
func TestFreshOnes(t *testing.T) {
	for _, a := range []api.Attr{{}, ink, {Bg: 256}, {Bg: api.Rgb + 5}, {Fg: 3}, {Fg: math.MaxUint32, Bg: math.MaxUint32, Flags: math.MaxUint16}} {
		for at, s := range []step{{"Up", 1, 0, 0, a}, {"Down", 1, 0, 0, a}, {"InsertLines", 1, 1, 0, a}, {"DeleteLines", 1, 1, 0, a}} {
			d := made(t, 3, 4, 1, true)
			d.follow(s)
			i := []int{2, 0, 1, 2}[at]
			if !sameCells(d.x.Row(i).Cells(), slices.Repeat([]api.Cell{{R: 32, A: api.Attr{Bg: a.Bg}}}, 4)) || d.x.ID(i) != 4 {
				t.Error(s, d.x.ID(i), d.x.Row(i).Cells())
			}
			d.follow(resize(5, 6, 0))
			for i := 3; i < 5; i++ {
				if !sameCells(d.x.Row(i).Cells(), slices.Repeat([]api.Cell{{R: 32}}, 6)) || d.x.ID(i) != i+2 {
					t.Error(s, d.x.ID(i), d.x.Row(i).Cells())
				}
			}
		}
	}
}

// TestResize: from each small size to each other one, with each row, margins
// set, of screens that keep and of those that do not.
func TestResize(t *testing.T) {
	for rows := 1; rows <= 5; rows++ {
		for to := range 7 {
			for y := -1; y <= rows; y++ {
				for cols := range 6 {
					for _, keeps := range []bool{true, false} {
						d := made(t, rows, 4, 3, keeps)
						d.follow(margins(rows/2, rows-1), resize(to, cols, y), resize(rows, 4, 0))
						d.follow(up(1), down(2))
					}
				}
			}
		}
	}
}

// TestResizeFar: numbers far off, each alone and all of them.
func TestResizeFar(t *testing.T) {
	for _, n := range append([]int{-1, 0}, far...) {
		d := made(t, 3, 4, 3, true)
		d.follow(margins(0, 1), resize(n, 4, 0), resize(3, n, 0), resize(3, 4, n-1), resize(n, n, n))
		for _, s := range []step{resize(n, 4, 0), resize(3, n, 0), resize(n, n, n)} {
			if told, err := s.on(d.x); told != 0 || err != api.ErrArg {
				t.Error(s, told, err)
			}
		}
	}
	d := made(t, 3, 4, 3, true)
	for _, s := range []step{resize(3, 4, 3), resize(5, 4, 4), resize(2, 4, -1), resize(1, 1, 512)} {
		d.follow(s)
		if _, err := s.on(d.x); err != api.ErrArg {
			t.Error(s, err)
		}
	}
}

// TestResizeTold: some of it outright.
func TestResizeTold(t *testing.T) {
	for _, e := range []struct {
		rows, y int
		ids     []int
		told    int
	}{
		{4, 3, []int{1, 2, 3, 4}, 3},
		{3, 3, []int{2, 3, 4}, 2},
		{3, 2, []int{1, 2, 3}, 2},
		{2, 3, []int{3, 4}, 1},
		{2, 2, []int{2, 3}, 1},
		{2, 1, []int{1, 2}, 1},
		{2, 0, []int{1, 2}, 0},
		{1, 2, []int{3}, 0},
		{6, 3, []int{1, 2, 3, 4, 5, 6}, 3},
		{6, 0, []int{1, 2, 3, 4, 5, 6}, 0},
	} {
		d := made(t, 4, 3, 9, true)
		d.follow(margins(1, 2))
		told, err := d.x.Resize(e.rows, 5, e.y)
		if told != e.told || err != api.OK || !slices.Equal(ids(d.x), e.ids) || d.x.Cols() != 5 {
			t.Error(e, told, err, ids(d.x), d.x.Cols())
		}
		if top, bottom := d.x.Margins(); top != 0 || bottom != e.rows-1 {
			t.Error(e, top, bottom)
		}
	}
}

// TestPushedWidth: what Resize pushes is as long as the screen was.
func TestPushedWidth(t *testing.T) {
	d := made(t, 3, 6, 9, true)
	d.follow(resize(1, 2, 2))
	for i := range 2 {
		if l, err := d.s.At(i); len(l.Cells) != 6 || err != api.OK {
			t.Error(i, l, err)
		}
	}
}

// TestGreat: the greatest screen.
func TestGreat(t *testing.T) {
	d := made(t, 512, 512, 600, true)
	d.follow(up(1), up(300), margins(3, 510), down(7), insert(5, 400), remove(4, 512), resize(1, 1, 511), resize(512, 512, 0), up(512))
}

// TestLong does many steps, one behind the other, to screens of all kinds.
func TestLong(t *testing.T) {
	x := uint32(7)
	next := func(n int) int {
		x = x*1664525 + 1013904223
		return int(x>>16) % n
	}
	for round := range 80 {
		d := made(t, 1+next(9), 1+next(5), next(12), round%2 == 0)
		for range 150 {
			rows := d.x.Rows()
			at, n, m := next(rows+2)-1, next(rows+3)-1, next(rows+3)-1
			switch next(8) {
			case 0, 1:
				d.follow(up(n))
			case 2:
				d.follow(down(n))
			case 3:
				d.follow(insert(at, n))
			case 4:
				d.follow(remove(at, n))
			case 5:
				d.follow(margins(n, m))
			case 6:
				d.follow(resize(next(10), next(6), at))
			case 7:
				d.write(next(rows))
				d.hold()
			}
		}
	}
}

// TestRowItself: what is done to a row is done to the screen, wherever its line
// goes; and what was pushed stays as it was.
func TestRowItself(t *testing.T) {
	d := made(t, 4, 5, 9, true)
	rows := map[int]*row.Row{}
	for _, s := range []step{up(1), margins(1, 3), down(1), insert(2, 1), remove(1, 1), up(1), margins(0, 3), up(2), resize(6, 7, 1), down(1), resize(2, 3, 3), resize(3, 9, 0)} {
		d.follow(s)
		for i := range d.x.Rows() {
			id := d.x.ID(i)
			if rows[id] == nil {
				rows[id] = d.x.Row(i)
			}
			if rows[id] != d.x.Row(i) {
				t.Fatal(s, i, "another row")
			}
			d.write(i)
			d.hold(s)
		}
		for id, r := range rows {
			if d.x.Find(id) < 0 {
				r.Erase(0, 5, ink)
			}
		}
		d.hold(s)
	}
}

// TestOneStore: two screens out of one store have no id twice, and only the one
// that keeps pushes.
func TestOneStore(t *testing.T) {
	s, _ := lines.New(5)
	main, _ := screen.New(2, 3, s, true)
	other, _ := screen.New(3, 3, s, false)
	other.Up(1, ink)
	main.Up(1, ink)
	other.Resize(1, 3, 2)
	if got, want := fmt.Sprint(ids(main), ids(other), s.Len(), s.Find(1), s.Next()), "[2 7] [6] 1 0 8"; got != want {
		t.Error(got, want)
	}
	s.Clear()
	if !slices.Equal(ids(main), []int{2, 7}) || !slices.Equal(ids(other), []int{6}) {
		t.Error("what the store clears is not the screen's", ids(main), ids(other))
	}
}

// TestStoreGone: a store that is made a zero one behind a screen's back, and
// rows that are, make nothing panic.
func TestStoreGone(t *testing.T) {
	d := made(t, 4, 3, 9, true)
	*d.s = lines.Store{}
	*d.x.Row(1) = row.Row{}
	for _, s := range []step{up(1), down(2), insert(1, 1), remove(1, 1), margins(0, 2), up(9), resize(6, 5, 0), resize(2, 5, 5)} {
		if _, err := s.on(d.x); err != api.OK {
			t.Error(s, err)
		}
	}
	if d.x.Rows() != 2 || d.x.Cols() != 5 {
		t.Error(d.x.Rows(), d.x.Cols())
	}
}

// TestRefused: what is refused changes nothing.
func TestRefused(t *testing.T) {
	for _, keeps := range []bool{true, false} {
		d := made(t, 5, 3, 9, keeps)
		d.follow(up(1), margins(1, 3))
		for _, s := range []step{
			margins(3, 1), margins(2, 2), margins(-1, 3), margins(1, 5), margins(0, 0),
			insert(0, 1), insert(4, 1), insert(-1, 1), insert(5, 1), remove(0, 1), remove(4, 1), remove(-1, 1), remove(5, 1),
			resize(0, 3, 1), resize(513, 3, 1), resize(5, 0, 1), resize(5, 513, 1), resize(2, 2, -1), resize(2, 2, 5),
		} {
			if told, err := s.on(d.x); told != 0 || err != api.ErrArg {
				t.Error(s, told, err)
			}
			d.hold(s)
		}
	}
}

// TestNothing: screens that are not there, and zero ones, are asked in vain.
func TestNothing(t *testing.T) {
	for _, x := range []*screen.Screen{nil, {}, new(screen.Screen)} {
		for _, n := range append([]int{-1, 0, 1, 2, 512}, far...) {
			for _, s := range []step{up(n), down(n), insert(n, n), remove(n, n), insert(0, n), remove(0, n), margins(n, n), margins(0, n), resize(n, n, n), resize(1, 1, n), resize(n, 2, 0), resize(2, n, 0)} {
				if told, err := s.on(x); told != 0 || err != api.ErrNil {
					t.Error(s, told, err)
				}
			}
			if x.Row(n) != nil || x.ID(n) != 0 || x.Find(n) != -1 {
				t.Error(n, x.Row(n), x.ID(n), x.Find(n))
			}
		}
		top, bottom := x.Margins()
		if x.Rows() != 0 || x.Cols() != 0 || top != 0 || bottom != 0 {
			t.Error(x.Rows(), x.Cols(), top, bottom)
		}
	}
}
