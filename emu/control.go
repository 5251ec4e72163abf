package emu

import "tactile/api"

// do does an act; those of kinds that are not named here are nothing.
func (t *terminal) do(x api.Act) {
	kinds := map[uint8]func(*terminal, api.Act){
		api.ActPrint: (*terminal).print,
		api.ActExec:  (*terminal).control,
		api.ActEsc:   (*terminal).escape,
		api.ActCsi:   (*terminal).sequence,
	}
	if does := kinds[x.Kind]; does != nil {
		does(t, x)
	}
}

// control does a control.
func (t *terminal) control(x api.Act) {
	controls := map[int32]func(*terminal){
		0x08: (*terminal).stepBack,
		0x09: (*terminal).nextTab,
		0x0a: (*terminal).newLine,
		0x0b: (*terminal).newLine,
		0x0c: (*terminal).newLine,
		0x0d: (*terminal).lineBegin,
		0x0e: (*terminal).secondSet,
		0x0f: (*terminal).firstSet,
		0x84: (*terminal).rowDown,
		0x85: (*terminal).nextLine,
		0x88: (*terminal).setTab,
		0x8d: (*terminal).rowUp,
	}
	if does := controls[x.R]; does != nil {
		does(t)
	}
}

// escape does what stands behind an escape.
func (t *terminal) escape(x api.Act) {
	if len(x.Inter) > 0 {
		t.choose(x)
		return
	}
	escapes := map[int32]func(*terminal){
		'7': (*terminal).save,
		'8': (*terminal).restore,
		'D': (*terminal).rowDown,
		'E': (*terminal).nextLine,
		'H': (*terminal).setTab,
		'M': (*terminal).rowUp,
		'c': (*terminal).reset,
	}
	if does := escapes[x.Final]; does != nil {
		does(t)
	}
}

// choose chooses a charset for G0 or G1.
func (t *terminal) choose(x api.Act) {
	which := map[int32]int{'(': 0, ')': 1}
	sets := map[int32]uint8{'0': api.CharGraphics, 'A': api.CharUK, 'B': api.CharASCII}
	i, isPlace := which[x.Inter[0]]
	set, isSet := sets[x.Final]
	if len(x.Inter) == 1 && isPlace && isSet {
		t.sets[i] = set
	}
}

func (t *terminal) stepBack() { t.move(t.row, t.col-1) }

func (t *terminal) nextTab() {
	t.place(t.row, t.tabs.Next(t.col, 1))
	t.tellStraight()
}

func (t *terminal) newLine() {
	if t.NewLine {
		t.col = 0
	}
	t.feed()
	t.tellFeed(false)
}

func (t *terminal) lineBegin() {
	t.place(t.row, 0)
	t.tellStraight()
}

func (t *terminal) firstSet() { t.which = 0 }

func (t *terminal) secondSet() { t.which = 1 }

func (t *terminal) rowDown() {
	t.feed()
	t.tellOther()
}

func (t *terminal) nextLine() {
	t.col = 0
	t.rowDown()
}

// rowUp is a line feed the other way.
func (t *terminal) rowUp() {
	s := t.shown()
	if top, _ := s.Margins(); t.row == top {
		s.Down(1, t.a)
		t.move(t.row, t.col)
	} else {
		t.move(t.row-1, t.col)
	}
}

func (t *terminal) setTab() { t.tabs.Set(t.col) }

func (t *terminal) save() { t.shown().saved = saved{t.cursor, t.pen, t.Origin} }

// restore makes it again as it was saved. What was saved is held at each other size, so that it is within the screen.
func (t *terminal) restore() {
	s := t.shown()
	t.cursor, t.pen, t.Origin = s.saved.cursor, s.saved.pen, s.saved.origin
	t.pending = t.pending && t.col == s.Cols()-1
	t.tellOther()
}

// reset makes all as at first.
func (t *terminal) reset() {
	t.begin(t.shown().Rows(), t.shown().Cols())
	t.tellReset()
}
