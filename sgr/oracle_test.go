package sgr_test

import (
	"strconv"
	"strings"

	"tactile/api"
)

// A change is what a number that stands alone does: the flags that are set,
// those that are no more, and the colours that come.
type change struct {
	set, end uint16
	fg, bg   func(uint32) uint32
}

// to is a colour that comes whatever was there.
func to(c uint32) func(uint32) uint32 { return func(uint32) uint32 { return c } }

// changes are the document's words of what numbers do, one behind the other,
// written apart from the program's, so that a slip in either shows. What has
// none does nothing.
func changes() map[int]change {
	all := map[int]change{
		0: {end: 0xffff, fg: to(0), bg: to(0)},
		1: {set: 1}, 2: {set: 2}, 3: {set: 4}, 4: {set: 8}, 5: {set: 16}, 7: {set: 32}, 8: {set: 64}, 9: {set: 128},
		22: {end: 1 + 2},
		23: {end: 4}, 24: {end: 8}, 25: {end: 16}, 27: {end: 32}, 28: {end: 64}, 29: {end: 128},
		39: {fg: to(0)},
		49: {bg: to(0)},
	}
	for n := 30; n <= 37; n++ {
		all[n] = change{fg: to(1 + uint32(n) - 30)}
	}
	for n := 90; n <= 97; n++ {
		all[n] = change{fg: to(1 + uint32(n) - 82)}
	}
	for n := 40; n <= 47; n++ {
		all[n] = change{bg: to(1 + uint32(n) - 40)}
	}
	for n := 100; n <= 107; n++ {
		all[n] = change{bg: to(1 + uint32(n) - 92)}
	}
	return all
}

var words = changes()

// on does a change.
func (c change) on(a api.Attr) api.Attr {
	a.Flags = a.Flags | c.end | c.set
	a.Flags -= c.end
	if c.fg != nil {
		a.Fg = c.fg(a.Fg)
	}
	if c.bg != nil {
		a.Bg = c.bg(a.Bg)
	}
	return a
}

// parted parts numbers in steps: a number alone, or 38 or 48 with the colour
// that follows; what does nothing, because no colour can be told, is in none.
func parted(l []int) (steps [][]int) {
	for at := 0; at < len(l); {
		long := 1
		if l[at] == 38 || l[at] == 48 {
			switch rest := len(l) - at; {
			case rest >= 3 && l[at+1] == 5:
				long = 3
			case rest >= 5 && l[at+1] == 2:
				long = 5
			default:
				return steps
			}
		}
		steps = append(steps, l[at:at+long])
		at += long
	}
	return steps
}

// says is what Apply should tell.
func says(a api.Attr, l []int) api.Attr {
	if len(l) == 0 {
		l = []int{0}
	}
	for _, step := range parted(l) {
		if len(step) == 1 {
			a = words[step[0]].on(a)
			continue
		}
		c, ok := colour(step[2:])
		if ok && step[0] == 38 {
			a.Fg = c
		}
		if ok && step[0] == 48 {
			a.Bg = c
		}
	}
	return a
}

// colour is that of one number or of three, if there is such a one.
func colour(l []int) (c uint32, ok bool) {
	for _, n := range l {
		if n < 0 || n > 255 {
			return 0, false
		}
		c = 256*c + uint32(n)
	}
	if len(l) == 1 {
		return c + 1, true
	}
	return c + 16777216, true
}

// tells is what Numbers should tell of an attribute that may be, as it is
// written in a sequence.
func tells(a api.Attr) string {
	l := []string{"0"}
	for i, n := range strings.Split("1 2 3 4 5 7 8 9", " ") {
		if a.Flags>>i%2 == 1 {
			l = append(l, n)
		}
	}
	return strings.Join(l, ";") + colourTells(a.Fg, "3", "9") + colourTells(a.Bg, "4", "10")
}

// colourTells is what a colour adds, by how its numbers begin.
func colourTells(c uint32, usual, bright string) string {
	digits := func(n uint32) string { return strconv.Itoa(int(n)) }
	switch {
	case c == 0:
		return ""
	case c <= 8:
		return ";" + usual + digits(c-1)
	case c <= 16:
		return ";" + bright + digits(c-9)
	case c <= 256:
		return ";" + usual + "8;5;" + digits(c-1)
	}
	c -= 16777216
	return ";" + usual + "8;2;" + digits(c/65536) + ";" + digits(c/256%256) + ";" + digits(c%256)
}
