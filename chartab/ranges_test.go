package chartab

import "testing"

// The searches stop at the first span beyond a rune, which is right only
// while the spans rise and do not overlap.
func TestSpansRise(t *testing.T) {
	for what, spans := range map[string][]span{"widths": widths[:], "classes": classes[:]} {
		last := int32(-1)
		for _, s := range spans {
			if s.first <= last || s.last < s.first {
				t.Errorf("%s: the span %#x to %#x stands behind %#x", what, s.first, s.last, last)
			}
			last = s.last
		}
	}
}

func TestGraphicsEndAtTheTilde(t *testing.T) {
	if last := firstGraphic + int32(len(graphics)) - 1; last != '~' {
		t.Errorf("the graphics end at %#x", last)
	}
}
