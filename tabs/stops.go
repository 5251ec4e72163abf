package tabs

import (
	"math/bits"

	"tactile/api"
)

// wordBits is how many columns a word of bits has. It divides MaxSize, and is a
// multiple of 8, so that the stops at first stand alike in each word.
const wordBits = 64

// eighths are each eighth bit of a word.
const eighths uint64 = 0x0101010101010101

// stops are words of bits: a column's bit is set where it is a stop.
type stops [api.MaxSize / wordBits]uint64

// fresh are the stops at first of the columns from from on, below to.
func fresh(from, to int) stops {
	var s stops
	for i := range len(s) {
		s[i] = eighths
	}
	// Column 0 is a stop only where it is made one.
	s.clear(0)
	return s.within(from, to)
}

// set makes a column a stop.
func (s *stops) set(col int) { s[col/wordBits] |= 1 << (col % wordBits) }

// clear makes a column none.
func (s *stops) clear(col int) { s[col/wordBits] &^= 1 << (col % wordBits) }

// within are the stops from from on, below to.
func (s stops) within(from, to int) stops {
	for i := range len(s) {
		first := i * wordBits
		s[i] &= below(to-first) &^ below(from-first)
	}
	return s
}

// with are these stops, and the others, too.
func (s stops) with(others stops) stops {
	for i := range len(s) {
		s[i] |= others[i]
	}
	return s
}

// count tells how many stops there are.
func (s stops) count() int {
	n := 0
	for i := range len(s) {
		n += bits.OnesCount64(s[i])
	}
	return n
}

// nth tells the n-th stop, the first one for 1: there must be so many.
func (s stops) nth(n int) int {
	col := 0
search:
	for i := range len(s) {
		for range bits.OnesCount64(s[i]) {
			col = i*wordBits + bits.TrailingZeros64(s[i])
			n--
			if n == 0 {
				break search
			}
			s.clear(col)
		}
	}
	return col
}

// all tells all stops, rising.
func (s stops) all() []int {
	var cols []int
	for i := range len(s) {
		for range bits.OnesCount64(s[i]) {
			col := i*wordBits + bits.TrailingZeros64(s[i])
			cols = append(cols, col)
			s.clear(col)
		}
	}
	return cols
}

// below are a word's bits whose numbers are below n.
func below(n int) uint64 { return uint64(1)<<max(0, min(n, wordBits)) - 1 }
