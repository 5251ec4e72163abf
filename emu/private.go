package emu

import (
	"tactile/modes"
	"tactile/screen"
)

// private are the control functions with a ?, by their finals.
func private() map[int32]func(*terminal, numbers) {
	return map[int32]func(*terminal, numbers){
		'h': (*terminal).privatesOn,
		'l': (*terminal).privatesOff,
	}
}

func (t *terminal) privatesOn(p numbers) { t.setPrivates(p, true) }

func (t *terminal) privatesOff(p numbers) { t.setPrivates(p, false) }

// setPrivates turns private modes on or off, one after the other. Some do more than that.
func (t *terminal) setPrivates(p numbers, on bool) {
	more := map[int]func(*terminal, bool){
		6:    (*terminal).setOrigin,
		47:   (*terminal).setOther,
		1047: (*terminal).setOther,
		1048: (*terminal).setSaved,
		1049: (*terminal).setOtherSaved,
	}
	for i := range p {
		n := p.at(i)
		if does := more[n]; does != nil {
			does(t, on)
		} else {
			t.Modes, _ = modes.Put(t.Modes, true, n, on)
		}
	}
}

func (t *terminal) setOrigin(on bool) {
	t.Origin = on
	t.home()
}

// setSaved saves, or makes it again as it was saved.
func (t *terminal) setSaved(on bool) {
	if on {
		t.save()
	} else {
		t.restore()
	}
}

// setOther shows the other screen, or the main one; if it is shown already, nothing.
func (t *terminal) setOther(on bool) {
	if on == t.Alternate {
		return
	}
	t.Alternate = on
	if on {
		t.other = t.fresh()
	} else {
		t.other = nil
	}
	t.move(t.row, t.col)
}

// fresh is another screen of the same size, of which nothing is saved.
func (t *terminal) fresh() *sheet {
	s, _ := screen.New(t.main.Rows(), t.main.Cols(), t.store, false)
	return &sheet{Screen: s}
}

// setOtherSaved is setOther with what is saved of the main screen: it is saved ahead of the other one, and comes again behind it.
func (t *terminal) setOtherSaved(on bool) {
	if on == t.Alternate {
		return
	}
	if on {
		t.save()
	}
	t.setOther(on)
	if !on {
		t.restore()
	}
}
