// Package chartab is layer 1: what runes are (see shared/doc/01-chartab.md).
// It tells how wide a rune is, of which class, what it is by a charset, and
// how a sign is named.
package chartab

import "tactile/api"

// The surrogates: numbers within the range of runes that are none.
const (
	firstSurrogate int32 = 0xd800
	lastSurrogate  int32 = 0xdfff
)

// caseStep lies between a capital and its small one, in ASCII and in Latin-1.
const caseStep int32 = 32

// May tells whether r may be a rune.
func May(r int32) bool {
	if r >= firstSurrogate && r <= lastSurrogate {
		return false
	}
	return r >= 0 && r <= api.MaxRune
}

// Width tells how many columns r takes: 0, 1 or 2.
func Width(r int32) int {
	if !May(r) {
		return 0
	}
	for i := range widths {
		if r < widths[i].first {
			break
		}
		if r <= widths[i].last {
			return int(widths[i].value)
		}
	}
	return 1
}

// Class tells of which class r is: one of api's Class numbers.
func Class(r int32) uint8 {
	// Width comes first: it alone decides what is of no class.
	if Width(r) == 0 {
		return api.ClassNone
	}
	for i := range classes {
		if r < classes[i].first {
			break
		}
		if r <= classes[i].last {
			return classes[i].value
		}
	}
	if r < 0x80 {
		return api.ClassSign
	}
	return api.ClassOther
}

// Lower tells the small one of a capital; of any other rune itself.
func Lower(r int32) int32 {
	if Class(r) == api.ClassCapital {
		return r + caseStep
	}
	return r
}

// Upper tells the capital of a small one; of any other rune itself, and of
// a small one that has no capital one step below it.
func Upper(r int32) int32 {
	if Class(r) == api.ClassSmall && Class(r-caseStep) == api.ClassCapital {
		return r - caseStep
	}
	return r
}

// Charset tells what r is by the charset of that number; a number that is no
// charset's leaves it as it is.
func Charset(set uint8, r int32) int32 {
	switch set {
	case api.CharUK:
		return british(r)
	case api.CharGraphics:
		return graphic(r)
	}
	return r
}

func british(r int32) int32 {
	if r == '#' {
		return 0xa3
	}
	return r
}

func graphic(r int32) int32 {
	switch {
	case r == '_':
		return ' '
	case r >= firstGraphic && r < firstGraphic+int32(len(graphics)):
		return graphics[r-firstGraphic]
	}
	return r
}

// Name tells a sign's name and its level; an empty one and 0 of a rune that
// has none.
func Name(r int32) (string, int) {
	// The map is made anew by each call: runes that are no signs, most of
	// them, should not pay for it.
	if Class(r) != api.ClassSign {
		return "", 0
	}
	n := names()[r]
	return n.text, n.level
}
