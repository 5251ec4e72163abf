package typed_test

import (
	"fmt"

	"tactile/typed"
)

const (
	maxTick  = 1 << 40
	maxTyped = 64
)

// A paper is a list after the document's words: all that was typed since the
// last Clear, what has gone of it struck out. It is written apart from the
// program's, so that a slip in either shows.
type paper struct {
	life     int
	greatest int
	notes    []note
}

// A note is a rune that was typed, and when.
type note struct {
	r    int32
	tick int
	gone bool
}

// A step is a call that changes a list: kind is the function's name.
type step struct {
	kind string
	r    int32
	now  int
}

func (s step) String() string {
	if s.kind == "Clear" {
		return s.kind
	}
	return fmt.Sprintf("%s %d at %d", s.kind, s.r, s.now)
}

// on does a step to the program's list.
func (s step) on(l *typed.List) bool {
	switch s.kind {
	case "Type":
		l.Type(s.r, s.now)
		return false
	case "Take":
		return l.Take(s.r, s.now)
	case "Clear":
		l.Clear()
		return false
	}
	panic(s.kind)
}

// do does a step to a paper.
func (p *paper) do(s step) bool {
	switch s.kind {
	case "Type":
		p.notes = append(p.notes, note{r: s.r, tick: p.tick(s.now)})
		if left := p.left(); len(left) > maxTyped {
			left[0].gone = true
		}
	case "Take":
		now := p.tick(s.now)
		for _, n := range p.left() {
			n.gone = now >= n.tick+p.life
		}
		left := p.left()
		if len(left) == 0 || left[0].r != s.r {
			return false
		}
		left[0].gone = true
		return true
	case "Clear":
		p.notes = nil
	default:
		panic(s.kind)
	}
	return false
}

// tick is what a moment is taken as; it is the greatest one so far then.
func (p *paper) tick(now int) int {
	switch {
	case now > maxTick:
		p.greatest = maxTick
	case now > p.greatest:
		p.greatest = now
	}
	return p.greatest
}

// left are the notes that have not gone.
func (p *paper) left() []*note {
	var left []*note
	for i := range p.notes {
		if !p.notes[i].gone {
			left = append(left, &p.notes[i])
		}
	}
	return left
}

// waits are the runes that are awaited at a tick.
func (p *paper) waits(now int) []int32 {
	if now < p.greatest {
		now = p.greatest
	}
	var runes []int32
	for _, n := range p.left() {
		if now-n.tick < p.life {
			runes = append(runes, n.r)
		}
	}
	return runes
}

// copied is a paper like this one.
func (p *paper) copied() *paper {
	return &paper{p.life, p.greatest, append([]note(nil), p.notes...)}
}
