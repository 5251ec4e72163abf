package frontier_test

import (
	"fmt"

	"tactile/api"
	"tactile/frontier"
)

// A fed is an event that is fed, and whether it is an echo.
type fed struct {
	e    api.Event
	echo bool
}

// to feeds it to the program's frontier.
func (x fed) to(f *frontier.Front) uint8 { return f.Feed(x.e, x.echo) }

// A tale is all that was fed to a frontier, from its beginning on. What the
// document's words ask is told out of it anew each time, and nothing is kept,
// so that a slip of the program's shows.
type tale []fed

func (t tale) String() string {
	told := ""
	for _, x := range t {
		told += fmt.Sprintf("{kind %d blank %v last %v fresh %v echo %v}", x.e.Kind, x.e.Blank, x.e.Last, x.e.Fresh, x.echo)
	}
	return told
}

// and is a tale with one more event, in memory of its own.
func (t tale) and(more ...fed) tale { return append(append(tale(nil), t...), more...) }

// on looks back for what has turned the frontier on or off last: a print on
// blanks leaves it as it was, and so does a join of the last print.
func (t tale) on() bool {
	for i := len(t) - 1; i >= 0; i-- {
		switch e := t[i].e; e.Kind {
		case api.EvPrint:
			if !e.Blank {
				return false
			}
		case api.EvJoin:
			if !e.Last || t[:i].print() < 0 {
				return false
			}
		case api.EvStraight:
			if e.Fresh {
				return true
			}
		case api.EvOther:
			return false
		case api.EvReset:
			return true
		}
	}
	return true
}

// kind is what the last event is.
func (t tale) kind() uint8 {
	ahead, x := t[:len(t)-1], t[len(t)-1]
	switch x.e.Kind {
	case api.EvPrint:
		if x.echo {
			return api.KindEcho
		}
		if ahead.on() && x.e.Blank {
			return api.KindAppend
		}
		return api.KindRedraw
	case api.EvJoin:
		if i := ahead.print(); x.e.Last && i >= 0 {
			return t[:i+1].kind()
		}
		return api.KindRedraw
	}
	return api.KindNone
}

// print is where the last print stands since the last reset; -1: there is none.
func (t tale) print() int {
	for i := len(t) - 1; i >= 0 && t[i].e.Kind != api.EvReset; i-- {
		if t[i].e.Kind == api.EvPrint {
			return i
		}
	}
	return -1
}

// joined is what a join with Last would be now.
func (t tale) joined() uint8 {
	return t.and(fed{e: api.Event{Kind: api.EvJoin, Last: true}}).kind()
}
