package emu

import (
	"tactile/api"
	"tactile/keys"
	"tactile/modes"
	"tactile/sgr"
)

// numbers are those of a control function.
type numbers []int

// at is the i-th number, held within 0 to MaxParam; 0, if there is none.
func (p numbers) at(i int) int {
	if i >= len(p) {
		return 0
	}
	return max(0, min(p[i], api.MaxParam))
}

// count is the i-th number where none is taken as 1.
func (p numbers) count(i int) int { return max(1, p.at(i)) }

// sequence does a control function.
func (t *terminal) sequence(x api.Act) {
	if len(x.Inter) > 0 {
		return
	}
	var finals map[int32]func(*terminal, numbers)
	switch x.Private {
	case 0:
		finals = plain()
	case '?':
		finals = private()
	}
	if does := finals[x.Final]; does != nil {
		does(t, x.Params)
	}
}

// plain are the control functions that are not private, by their finals.
func plain() map[int32]func(*terminal, numbers) {
	return map[int32]func(*terminal, numbers){
		'A': (*terminal).goUp,
		'B': (*terminal).goDown,
		'C': (*terminal).goOn,
		'D': (*terminal).goBack,
		'E': (*terminal).goDownToBegin,
		'F': (*terminal).goUpToBegin,
		'G': (*terminal).toCol,
		'`': (*terminal).toCol,
		'H': (*terminal).toPlace,
		'f': (*terminal).toPlace,
		'd': (*terminal).toRow,
		'I': (*terminal).tabsOn,
		'Z': (*terminal).tabsBack,
		'J': (*terminal).eraseScreen,
		'K': (*terminal).eraseLine,
		'X': (*terminal).eraseCells,
		'@': (*terminal).insertCells,
		'P': (*terminal).deleteCells,
		'L': (*terminal).insertLines,
		'M': (*terminal).deleteLines,
		'S': (*terminal).scrollUp,
		'T': (*terminal).scrollDown,
		'r': (*terminal).setMargins,
		'g': (*terminal).clearTabs,
		'm': (*terminal).look,
		'h': (*terminal).modesOn,
		'l': (*terminal).modesOff,
		'n': (*terminal).report,
		'c': (*terminal).device,
	}
}

func (t *terminal) goUp(p numbers) { t.move(t.above(p.count(0)), t.col) }

func (t *terminal) goDown(p numbers) { t.move(t.below(p.count(0)), t.col) }

func (t *terminal) goOn(p numbers) { t.move(t.row, t.col+p.count(0)) }

func (t *terminal) goBack(p numbers) { t.move(t.row, t.col-p.count(0)) }

func (t *terminal) goDownToBegin(p numbers) { t.move(t.below(p.count(0)), 0) }

func (t *terminal) goUpToBegin(p numbers) { t.move(t.above(p.count(0)), 0) }

func (t *terminal) toCol(p numbers) { t.move(t.row, p.count(0)-1) }

func (t *terminal) toPlace(p numbers) { t.move(t.counted(p.count(0)), p.count(1)-1) }

func (t *terminal) toRow(p numbers) { t.move(t.counted(p.count(0)), t.col) }

func (t *terminal) tabsOn(p numbers) { t.move(t.row, t.tabs.Next(t.col, p.count(0))) }

func (t *terminal) tabsBack(p numbers) { t.move(t.row, t.tabs.Prev(t.col, p.count(0))) }

// above is the row n rows up, but not beyond the top margin, unless the cursor is beyond it.
func (t *terminal) above(n int) int {
	if top, _ := t.shown().Margins(); t.row >= top {
		return max(top, t.row-n)
	}
	return t.row - n
}

// below is the row n rows down, but not beyond the bottom margin, unless the cursor is beyond it.
func (t *terminal) below(n int) int {
	if _, bottom := t.shown().Margins(); t.row <= bottom {
		return min(bottom, t.row+n)
	}
	return t.row + n
}

// counted is the row that a number names, 1 the first one: with Origin it is counted within the margins.
func (t *terminal) counted(n int) int {
	if !t.Origin {
		return n - 1
	}
	top, bottom := t.shown().Margins()
	return min(bottom, top+n-1)
}

// home sets the cursor to where rows and columns are counted from.
func (t *terminal) home() { t.move(t.counted(1), 0) }

// part is which cells of the cursor's row a number names: those from the cursor on, those up to it, or all.
func (t *terminal) part(n int) (from, to int, known bool) {
	cols := t.shown().Cols()
	switch n {
	case 0:
		return t.col, cols, true
	case 1:
		return 0, t.col + 1, true
	case 2:
		return 0, cols, true
	}
	return 0, 0, false
}

func (t *terminal) eraseLine(p numbers) {
	if from, to, known := t.part(p.at(0)); known {
		t.line().Erase(from, to, t.a)
		t.tellOther()
	}
}

func (t *terminal) eraseScreen(p numbers) {
	rows := t.shown().Rows()
	switch p.at(0) {
	case 0:
		t.eraseRows(t.row+1, rows)
	case 1:
		t.eraseRows(0, t.row)
	case 2:
		t.eraseRows(0, rows)
	case 3:
		t.store.Clear()
	}
	t.eraseLine(p)
}

// eraseRows erases the rows from from on, below to.
func (t *terminal) eraseRows(from, to int) {
	s := t.shown()
	for i := from; i < to; i++ {
		s.Row(i).Erase(0, s.Cols(), t.a)
	}
}

func (t *terminal) eraseCells(p numbers) {
	t.line().Erase(t.col, t.col+p.count(0), t.a)
	t.tellOther()
}

func (t *terminal) insertCells(p numbers) {
	t.line().Insert(t.col, p.count(0), t.a)
	t.tellOther()
}

func (t *terminal) deleteCells(p numbers) {
	t.line().Delete(t.col, p.count(0), t.a)
	t.tellOther()
}

func (t *terminal) insertLines(p numbers) {
	if t.shown().InsertLines(t.row, p.count(0), t.a) == api.OK {
		t.move(t.row, 0)
	}
}

func (t *terminal) deleteLines(p numbers) {
	if t.shown().DeleteLines(t.row, p.count(0), t.a) == api.OK {
		t.move(t.row, 0)
	}
}

func (t *terminal) scrollUp(p numbers) {
	t.shown().Up(p.count(0), t.a)
	t.tellOther()
}

func (t *terminal) scrollDown(p numbers) {
	t.shown().Down(p.count(0), t.a)
	t.tellOther()
}

func (t *terminal) setMargins(p numbers) {
	s := t.shown()
	top, bottom := p.count(0)-1, p.at(1)-1
	if bottom < 0 || bottom >= s.Rows() {
		bottom = s.Rows() - 1
	}
	if top < bottom {
		s.SetMargins(top, bottom)
		t.home()
	}
}

func (t *terminal) clearTabs(p numbers) {
	switch p.at(0) {
	case 0:
		t.tabs.Clear(t.col)
	case 3:
		t.tabs.ClearAll()
	}
}

func (t *terminal) look(p numbers) { t.a = sgr.Apply(t.a, p) }

func (t *terminal) modesOn(p numbers) { t.setModes(p, true) }

func (t *terminal) modesOff(p numbers) { t.setModes(p, false) }

func (t *terminal) setModes(p numbers, on bool) {
	for i := range p {
		t.Modes, _ = modes.Put(t.Modes, false, p.at(i), on)
	}
}

func (t *terminal) report(p numbers) {
	switch p.at(0) {
	case 5:
		t.reply(keys.Status())
	case 6:
		// Rows are told as they are counted: the home is 1.
		t.reply(keys.Cursor(t.row-t.counted(1)+1, t.col+1))
	}
}

func (t *terminal) device(p numbers) {
	if p.at(0) == 0 {
		t.reply(keys.Device())
	}
}

// reply puts bytes behind those that go to the host.
func (t *terminal) reply(b []byte) { t.replies = append(t.replies, b...) }
