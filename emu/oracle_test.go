package emu_test

import (
	"slices"
	"strconv"

	"tactile/api"
	"tactile/chartab"
	"tactile/lines"
	"tactile/row"
	"tactile/sgr"
)

// A paper is a terminal after the document's words: it is written apart from the program's, on rows and what stands ahead of them alone, so that a slip in either shows.
type paper struct {
	rows, cols, most int
	main             page
	other            *page // none, unless it is shown
	ids              int   // how many were told
	back             []api.Held
	row, col         int
	pending          bool
	a                api.Attr
	charsets         [2]uint8
	second           bool
	modes            api.Modes
	tabs             map[int]bool
	prints           uint64
	before           api.Event
	events           []api.Event
	replied          string
}

// A page is a screen.
type page struct {
	lines       []lines.Line
	top, bottom int
	kept        *kept
}

// kept is what was saved.
type kept struct {
	row, col       int
	pending        bool
	a              api.Attr
	charsets       [2]uint8
	second, origin bool
}

// newPaper is a terminal as at first.
func newPaper(rows, cols, most int) *paper {
	p := &paper{rows: rows, cols: cols, most: most}
	p.begin()
	return p
}

// begin makes it as at first; ids and prints are counted on.
func (p *paper) begin() {
	p.main = page{lines: p.fresh(p.rows, p.cols, api.Attr{}), bottom: p.rows - 1}
	p.other, p.back = nil, nil
	p.row, p.col, p.pending, p.a = 0, 0, false, api.Attr{}
	p.charsets, p.second = [2]uint8{}, false
	p.modes = api.Modes{AutoWrap: true, Visible: true}
	p.tabs = map[int]bool{}
	p.eighths(0, p.cols)
}

// eighths makes each eighth column a stop.
func (p *paper) eighths(from, to int) {
	for col := from; col < to; col++ {
		p.tabs[col] = col > 0 && col%8 == 0
	}
}

// fresh are lines with the next ids.
func (p *paper) fresh(n, cols int, a api.Attr) (all []lines.Line) {
	for range n {
		r, _ := row.New(cols)
		r.Erase(0, cols, a)
		p.ids++
		all = append(all, lines.Line{ID: p.ids, Row: r})
	}
	return all
}

// page is the one that is shown.
func (p *paper) page() *page {
	if p.other != nil {
		return p.other
	}
	return &p.main
}

// line is the cursor's.
func (p *paper) line() lines.Line { return p.page().lines[p.row] }

// push puts lines behind the scrollback's.
func (p *paper) push(all []lines.Line) {
	for _, l := range all {
		p.back = append(p.back, api.Held{ID: l.ID, Cells: l.Row.Cells()})
	}
	p.back = p.back[max(0, len(p.back)-p.most):]
}

// up leaves out n lines from a row on; fresh ones come at the bottom margin.
func (p *paper) up(from, n int, scrolls bool) {
	g := p.page()
	n = min(n, g.bottom-from+1)
	if scrolls && from == 0 && p.other == nil {
		p.push(g.lines[:n])
	}
	g.lines = slices.Concat(g.lines[:from], g.lines[from+n:g.bottom+1], p.fresh(n, p.cols, p.a), g.lines[g.bottom+1:])
}

// down leaves out n lines from the bottom margin up; fresh ones come at a row.
func (p *paper) down(to, n int) {
	g := p.page()
	n = min(n, g.bottom-to+1)
	g.lines = slices.Concat(g.lines[:to], p.fresh(n, p.cols, p.a), g.lines[to:g.bottom+1-n], g.lines[g.bottom+1:])
}

// tell puts down an event of the cursor's line and column.
func (p *paper) tell(e api.Event) {
	if e.Kind != api.EvJoin {
		e.Line, e.Col = p.line().ID, p.col
	}
	if e.Kind == api.EvPrint || e.Kind == api.EvJoin {
		e.Index = p.prints
		p.prints++
	}
	p.events = append(p.events, e)
	p.before = e
}

// set sets the cursor, wherever it is told to go, and tells of it.
func (p *paper) set(kind uint8, row, col int) {
	p.row, p.col, p.pending = min(max(row, 0), p.rows-1), min(max(col, 0), p.cols-1), false
	p.tell(api.Event{Kind: kind})
}

// lineFeed tells nothing of itself.
func (p *paper) lineFeed() {
	p.pending = false
	if p.row == p.page().bottom {
		p.up(p.page().top, 1, true)
	} else if p.row < p.rows-1 {
		p.row++
	}
}

// do does an act.
func (p *paper) do(x api.Act) {
	switch x.Kind {
	case 1:
		p.print(x.R)
	case 2:
		p.exec(x.R)
	case 3:
		p.esc(string(x.Inter), x.Final)
	case 4:
		switch {
		case len(x.Inter) > 0:
		case x.Private == '?' && (x.Final == 'h' || x.Final == 'l'):
			for _, n := range x.Params {
				p.private(n, x.Final == 'h')
			}
		case x.Private == 0:
			p.csi(x.Final, x.Params)
		}
	}
}

// print is ActPrint.
func (p *paper) print(r int32) {
	set := p.charsets[0]
	if p.second {
		set = p.charsets[1]
	}
	r = chartab.Charset(set, r)
	w := chartab.Width(r)
	if w == 0 {
		p.join(r)
		return
	}
	if w == 2 && p.cols == 1 {
		r, w = 0xfffd, 1
	}
	last := p.cols - 1
	if p.modes.AutoWrap && (p.pending || w == 2 && p.col == last) {
		p.col = 0
		p.lineFeed()
		p.tell(api.Event{Kind: api.EvStraight, Wrap: true, Fresh: p.line().Row.Blank(0)})
	} else if w == 2 && p.col == last {
		p.col = last - 1
	}
	l := p.line().Row
	blank := true
	for _, c := range l.Cells()[p.col:] {
		blank = blank && c.R == 32 && len(c.Comb) == 0 && c.Wide == 0
	}
	if p.modes.Insert {
		l.Insert(p.col, w, p.a)
	}
	l.Put(p.col, r, w == 2, p.a)
	p.tell(api.Event{Kind: api.EvPrint, Wide: w == 2, R: r, Blank: blank})
	p.col += w
	p.pending = p.col > last && p.modes.AutoWrap
	p.col = min(p.col, last)
}

// join is ActPrint of a mark.
func (p *paper) join(r int32) {
	at := p.col
	if !p.pending {
		at--
	}
	if at < 0 {
		return
	}
	cells := p.line().Row.Cells()
	if cells[at].Wide == api.Right {
		at--
	}
	p.line().Row.Join(at, r)
	of := p.before.Kind == api.EvPrint || p.before.Kind == api.EvJoin
	p.tell(api.Event{Kind: api.EvJoin, Line: p.line().ID, Col: at, R: r, Last: of && p.before.Line == p.line().ID && p.before.Col == at})
}

// exec is ActExec.
func (p *paper) exec(r int32) {
	switch r {
	case 8:
		p.set(api.EvOther, p.row, p.col-1)
	case 9:
		p.set(api.EvStraight, p.row, p.tab(p.col, 1))
	case 10, 11, 12:
		if p.modes.NewLine {
			p.col = 0
		}
		p.lineFeed()
		p.tell(api.Event{Kind: api.EvStraight, Fresh: p.line().Row.Blank(0)})
	case 13:
		p.set(api.EvStraight, p.row, 0)
	case 14, 15:
		p.second = r == 14
	case 0x84:
		p.esc("", 'D')
	case 0x85:
		p.esc("", 'E')
	case 0x88:
		p.esc("", 'H')
	case 0x8d:
		p.esc("", 'M')
	}
}

// tab is where a tab leads to.
func (p *paper) tab(col, step int) int {
	for col += step; col > 0 && col < p.cols-1; col += step {
		if p.tabs[col] {
			return col
		}
	}
	return min(max(col, 0), p.cols-1)
}

// esc is ActEsc.
func (p *paper) esc(inter string, final int32) {
	switch inter + string(final) {
	case "7":
		p.page().kept = &kept{p.row, p.col, p.pending, p.a, p.charsets, p.second, p.modes.Origin}
	case "8":
		k := p.page().kept
		if k == nil {
			k = &kept{}
		}
		p.a, p.charsets, p.second, p.modes.Origin = k.a, k.charsets, k.second, k.origin
		p.row, p.col = min(k.row, p.rows-1), min(k.col, p.cols-1)
		p.pending = k.pending && p.col == p.cols-1
		p.tell(api.Event{Kind: api.EvOther})
	case "D":
		p.lineFeed()
		p.tell(api.Event{Kind: api.EvOther})
	case "E":
		p.col = 0
		p.esc("", 'D')
	case "H":
		p.tabs[p.col] = true
	case "M":
		if p.row == p.page().top {
			p.down(p.row, 1)
			p.set(api.EvOther, p.row, p.col)
		} else {
			p.set(api.EvOther, p.row-1, p.col)
		}
	case "c":
		p.begin()
		p.tell(api.Event{Kind: api.EvReset})
	case "(0", "(A", "(B":
		p.charsets[0] = map[int32]uint8{'B': 0, 'A': 1, '0': 2}[final]
	case ")0", ")A", ")B":
		p.charsets[1] = map[int32]uint8{'B': 0, 'A': 1, '0': 2}[final]
	}
}

// csi is ActCsi without Private and Inter.
func (p *paper) csi(final int32, l []int) {
	if final == 'm' {
		p.a = sgr.Apply(p.a, l)
		return
	}
	numbers := [2]int{}
	for i := range numbers {
		if i < len(l) {
			numbers[i] = min(max(l[i], 0), 65535)
		}
	}
	n, m := max(numbers[0], 1), max(numbers[1], 1)
	g := p.page()
	switch final {
	case 'A', 'F', 'B', 'E':
		p.upOrDown(final, n)
	case 'C':
		p.set(api.EvOther, p.row, p.col+n)
	case 'D':
		p.set(api.EvOther, p.row, p.col-n)
	case 'G', '`':
		p.set(api.EvOther, p.row, n-1)
	case 'H', 'f':
		p.set(api.EvOther, p.counted(n), m-1)
	case 'd':
		p.set(api.EvOther, p.counted(n), p.col)
	case 'I', 'Z':
		col := p.col
		for range min(n, 600) {
			col = p.tab(col, map[int32]int{'I': 1, 'Z': -1}[final])
		}
		p.set(api.EvOther, p.row, col)
	case 'J', 'K':
		p.erase(final == 'J', numbers[0])
	case 'X', '@', 'P':
		switch final {
		case 'X':
			p.line().Row.Erase(p.col, min(p.col+n, p.cols), p.a)
		case '@':
			p.line().Row.Insert(p.col, n, p.a)
		case 'P':
			p.line().Row.Delete(p.col, n, p.a)
		}
		p.tell(api.Event{Kind: api.EvOther})
	case 'L', 'M':
		if p.row < g.top || p.row > g.bottom {
			return
		}
		if final == 'L' {
			p.down(p.row, n)
		} else {
			p.up(p.row, n, false)
		}
		p.set(api.EvOther, p.row, 0)
	case 'S':
		p.up(g.top, n, true)
		p.tell(api.Event{Kind: api.EvOther})
	case 'T':
		p.down(g.top, n)
		p.tell(api.Event{Kind: api.EvOther})
	case 'r':
		bottom := numbers[1]
		if bottom == 0 || bottom > p.rows {
			bottom = p.rows
		}
		if n < bottom {
			g.top, g.bottom = n-1, bottom-1
			p.set(api.EvOther, p.counted(1), 0)
		}
	case 'g':
		switch numbers[0] {
		case 0:
			p.tabs[p.col] = false
		case 3:
			p.tabs = map[int]bool{}
		}
	case 'h', 'l':
		for _, n := range l {
			switch n {
			case 4:
				p.modes.Insert = final == 'h'
			case 20:
				p.modes.NewLine = final == 'h'
			}
		}
	default:
		p.reply(final, numbers[0])
	}
}

// upOrDown is CSI A, B, E and F.
func (p *paper) upOrDown(final int32, n int) {
	g, to, col := p.page(), 0, p.col
	if final == 'A' || final == 'F' {
		to = p.row - n
		if p.row >= g.top && to < g.top {
			to = g.top
		}
	} else {
		to = p.row + n
		if p.row <= g.bottom && to > g.bottom {
			to = g.bottom
		}
	}
	if final == 'E' || final == 'F' {
		col = 0
	}
	p.set(api.EvOther, to, col)
}

// counted is the row that has a number.
func (p *paper) counted(n int) int {
	if p.modes.Origin {
		return min(p.page().top+n-1, p.page().bottom)
	}
	return min(n-1, p.rows-1)
}

// erase is CSI J and K: it goes over all cells, one by one.
func (p *paper) erase(all bool, n int) {
	if all && n == 3 {
		p.back = nil
	}
	if n > 2 {
		return
	}
	at := p.row*p.cols + p.col
	for i, l := range p.page().lines {
		if i != p.row && !all {
			continue
		}
		from, to := 0, p.cols
		if n == 0 {
			from = min(max(at-i*p.cols, 0), p.cols)
		}
		if n == 1 {
			to = min(max(at-i*p.cols+1, 0), p.cols)
		}
		l.Row.Erase(from, to, p.a)
	}
	p.tell(api.Event{Kind: api.EvOther})
}

// reply is CSI n and c.
func (p *paper) reply(final int32, n int) {
	switch {
	case final == 'n' && n == 5:
		p.replied += "\x1b[0n"
	case final == 'n' && n == 6:
		y := p.row
		if p.modes.Origin {
			y = max(0, y-p.page().top)
		}
		p.replied += "\x1b[" + strconv.Itoa(y+1) + ";" + strconv.Itoa(p.col+1) + "R"
	case final == 'c' && n == 0:
		p.replied += "\x1b[?62;22c"
	}
}

// private is one number of CSI ? h, l.
func (p *paper) private(n int, on bool) {
	switch n {
	case 1:
		p.modes.CursorKeys = on
	case 6:
		p.modes.Origin = on
		p.set(api.EvOther, p.counted(1), 0)
	case 7:
		p.modes.AutoWrap = on
	case 25:
		p.modes.Visible = on
	case 2004:
		p.modes.Paste = on
	case 1048:
		p.esc("", map[bool]int32{true: '7', false: '8'}[on])
	case 47, 1047, 1049:
		if on == (p.other != nil) {
			return
		}
		if on && n == 1049 {
			p.esc("", '7')
		}
		if on {
			p.other = &page{lines: p.fresh(p.rows, p.cols, api.Attr{}), bottom: p.rows - 1}
		} else {
			p.other = nil
		}
		p.modes.Alternate = on
		p.set(api.EvOther, p.row, p.col)
		if !on && n == 1049 {
			p.esc("", '8')
		}
	}
}

// resize is Resize.
func (p *paper) resize(rows, cols int) api.Errno {
	if rows < 1 || rows > 512 || cols < 1 || cols > 512 {
		return api.ErrArg
	}
	y := p.cut(p.page(), rows, cols, p.row)
	if p.other != nil {
		if p.main.kept == nil {
			p.cut(&p.main, rows, cols, 0)
		} else {
			p.main.kept.row = p.cut(&p.main, rows, cols, p.main.kept.row)
		}
	}
	for _, g := range []*page{&p.main, p.page()} {
		if g.kept != nil {
			g.kept.row, g.kept.col = min(g.kept.row, rows-1), min(g.kept.col, cols-1)
		}
	}
	for col := cols; col < p.cols; col++ {
		delete(p.tabs, col)
	}
	p.eighths(p.cols, cols)
	p.rows, p.cols = rows, cols
	p.set(api.EvOther, y, p.col)
	return api.OK
}

// cut gives a page another size, and tells where the line of a row is then.
func (p *paper) cut(g *page, rows, cols, y int) int {
	for y > rows-1 {
		if g == &p.main {
			p.push(g.lines[:1])
		}
		g.lines, y = slices.Clone(g.lines[1:]), y-1
	}
	for len(g.lines) > rows {
		g.lines = slices.Clone(g.lines[:len(g.lines)-1])
	}
	for _, l := range g.lines {
		l.Row.Resize(cols)
	}
	if more := rows - len(g.lines); more > 0 {
		g.lines = append(g.lines, p.fresh(more, cols, api.Attr{})...)
	}
	g.top, g.bottom = 0, rows-1
	return y
}

// grid is Grid.
func (p *paper) grid() api.Grid {
	g := api.Grid{Row: p.row, Col: p.col, Pending: p.pending, Hidden: !p.modes.Visible, Main: p.other == nil, Top: p.page().top, Bottom: p.page().bottom, A: p.a}
	for _, l := range p.page().lines {
		g.Cells = append(g.Cells, l.Row.Cells())
		g.IDs = append(g.IDs, l.ID)
	}
	return g
}
