package sgr

import "tactile/api"

// Of the colours that have numbers, which are one more in an attribute, the
// first ones are named by a number alone, in two rows.
const (
	usualCount = 8   // of 30 to 37, and of 40 to 47
	namedCount = 16  // and of 90 to 97, and of 100 to 107
	allCount   = 256 // and of those that follow
)

// What says how a colour that follows is told.
const (
	byParts  = 2
	byNumber = 5
)

// words are the numbers that speak of one of the two colours: what the number
// of a colour of the first row, and of the second, stands above the colour's
// own; that behind which a colour follows; that of the default one.
type words struct{ usual, bright, follows, none int }

func foreground() words { return words{usual: 30, bright: 82, follows: fgFollows, none: 39} }

func background() words { return words{usual: 40, bright: 92, follows: bgFollows, none: 49} }

// named tells the colour that a number alone makes of c.
func (w words) named(c uint32, n int) uint32 {
	switch {
	case n >= w.usual && n < w.usual+usualCount:
		return numbered(n - w.usual)
	case n >= w.bright+usualCount && n < w.bright+namedCount:
		return numbered(n - w.bright)
	case n == w.none:
		return 0
	}
	return c
}

// numbers tells what makes a colour out of the default one.
func (w words) numbers(c uint32) []int {
	n := int(c) - 1
	switch {
	case c == 0:
		return nil
	case c&api.Rgb != 0:
		return []int{w.follows, byParts, part(c, 16), part(c, 8), part(c, 0)}
	case n < usualCount:
		return []int{w.usual + n}
	case n < namedCount:
		return []int{w.bright + n}
	}
	return []int{w.follows, byNumber, n}
}

// follow tells the colour that numbers begin with, c if it stays, and the
// numbers behind. Where none can be told from them, all of them are gone.
func follow(c uint32, l []int) (uint32, []int) {
	switch {
	case len(l) >= 2 && l[0] == byNumber:
		if areBytes(l[1]) {
			c = numbered(l[1])
		}
		return c, l[2:]
	case len(l) >= 4 && l[0] == byParts:
		if areBytes(l[1], l[2], l[3]) {
			c = api.Rgb | uint32(l[1])<<16 | uint32(l[2])<<8 | uint32(l[3])
		}
		return c, l[4:]
	}
	return c, nil
}

// mayColour tells whether a colour may be.
func mayColour(c uint32) bool {
	return c <= allCount || c >= api.Rgb && c < 2*api.Rgb
}

// numbered is the colour of a number: 0 is the default one's.
func numbered(n int) uint32 { return uint32(n) + 1 }

// part is the byte of a colour from that bit on.
func part(c uint32, bit int) int { return int(c >> bit & 0xff) }

// areBytes tells whether all are 0 to 255.
func areBytes(l ...int) bool {
	for _, n := range l {
		if n < 0 || n > 0xff {
			return false
		}
	}
	return true
}
