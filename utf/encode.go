package utf

import "tactile/api"

// Encode tells the well formed sequence of r; that of Bad, if r has none.
func Encode(r int32) []byte {
	switch {
	case r < 0, r >= 0xd800 && r <= 0xdfff, r > api.MaxRune:
		return Encode(api.Bad)
	case r < 0x80:
		return []byte{byte(r)}
	case r < 0x800:
		return []byte{0xc0 | byte(r>>6), trailing(r)}
	case r < 0x10000:
		return []byte{0xe0 | byte(r>>12), trailing(r >> 6), trailing(r)}
	}
	return []byte{0xf0 | byte(r>>18), trailing(r >> 12), trailing(r >> 6), trailing(r)}
}

// trailing tells the byte of the six lowest bits of r.
func trailing(r int32) byte { return trail | byte(r)&trailMask }
