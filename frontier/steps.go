package frontier

import "tactile/api"

// steps tells, by the kinds' numbers, what takes an event.
func steps() [api.EvReset + 1]func(*Front, api.Event, bool) uint8 {
	return [...]func(*Front, api.Event, bool) uint8{
		0:              (*Front).takeNothing,
		api.EvPrint:    (*Front).takePrint,
		api.EvJoin:     (*Front).takeJoin,
		api.EvStraight: (*Front).takeStraight,
		api.EvOther:    (*Front).takeOther,
		api.EvReset:    (*Front).takeReset,
	}
}

// takePrint turns the frontier off, unless the print lands on blanks: so what
// is not an echo is appended just where the frontier is on behind it.
func (f *Front) takePrint(e api.Event, echo bool) uint8 {
	f.off = f.off || !e.Blank
	switch {
	case echo:
		f.last = api.KindEcho
	case f.off:
		f.last = api.KindRedraw
	default:
		f.last = api.KindAppend
	}
	return f.last
}

// takeJoin leaves the frontier as it was for a mark of the last print alone:
// any other one has changed what stood on the screen, as a redraw does.
func (f *Front) takeJoin(e api.Event, _ bool) uint8 {
	if e.Last && f.last != api.KindNone {
		return f.last
	}
	f.off = true
	return api.KindRedraw
}

func (f *Front) takeStraight(e api.Event, _ bool) uint8 {
	f.off = f.off && !e.Fresh
	return api.KindNone
}

func (f *Front) takeOther(api.Event, bool) uint8 {
	f.off = true
	return api.KindNone
}

// takeReset forgets the last print, too: its cell is gone.
func (f *Front) takeReset(api.Event, bool) uint8 {
	*f = Front{}
	return api.KindNone
}

func (f *Front) takeNothing(api.Event, bool) uint8 { return api.KindNone }
