package parser

import (
	"tactile/api"
	"tactile/params"
)

// sequence is what has come ahead of an act's Final. A zero one is empty.
type sequence struct {
	private int32
	numbers params.List
	places  [api.MaxInter]int32
	count   int  // how many were collected
	tooMany bool // one found no place any more
}

// collect takes one more of Inter.
func (s *sequence) collect(r int32) {
	if s.count == len(s.places) {
		s.tooMany = true
		return
	}
	s.places[s.count] = r
	s.count++
}

// acts tells the act, but none if too many were collected.
func (s *sequence) acts(kind uint8, final int32) []api.Act {
	if s.tooMany {
		return nil
	}
	return []api.Act{{
		Kind:    kind,
		Private: s.private,
		Params:  s.numbers.Values(),
		Inter:   append([]int32(nil), s.places[:s.count]...),
		Final:   final,
	}}
}

// clone makes another sequence just like this one.
func (s *sequence) clone() sequence {
	c := *s
	c.numbers = *s.numbers.Copy()
	return c
}
