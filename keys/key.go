package keys

import (
	"strconv"

	"tactile/api"
	"tactile/utf"
)

const (
	csi = "\x1b["
	ss3 = "\x1bO"
)

const (
	backspace = 0x08
	tab       = 0x09
	lineFeed  = 0x0a
	enter     = 0x0d
	escape    = 0x1b
	rubout    = 0x7f
)

// control puts numbers behind one another, with ; between, behind what they begin and ahead of what they end with.
func control(begin string, final byte, numbers ...int) []byte {
	b := []byte(begin)
	for i, n := range numbers {
		if i > 0 {
			b = append(b, ';')
		}
		b = strconv.AppendInt(b, int64(n), 10)
	}
	return append(b, final)
}

// mayBeRune tells whether a number is that of a rune.
func mayBeRune(r int32) bool {
	return r >= 0 && r <= api.MaxRune && (r < 0xd800 || r > 0xdfff)
}

// mayBe tells whether there is such a key: one that has no rune has 0 for it, and one that has no number, too.
func mayBe(k api.Key) bool {
	if k.Kind < api.KeyRune || k.Kind > api.KeyEscape || k.Mods > api.Shift|api.Alt|api.Ctrl {
		return false
	}
	switch k.Kind {
	case api.KeyRune:
		return mayBeRune(k.R) && k.N == 0
	case api.KeyF:
		return k.R == 0 && k.N >= 1 && k.N <= 12
	}
	return k.R == 0 && k.N == 0
}

// letter tells which letter a key's bytes end in; 0, if in none.
func letter(k api.Key) byte {
	switch k.Kind {
	case api.KeyUp:
		return 'A'
	case api.KeyDown:
		return 'B'
	case api.KeyRight:
		return 'C'
	case api.KeyLeft:
		return 'D'
	case api.KeyEnd:
		return 'F'
	case api.KeyHome:
		return 'H'
	case api.KeyF:
		if k.N <= 4 {
			return "PQRS"[k.N-1]
		}
	}
	return 0
}

// lettered tells the bytes of a key whose letter is final.
func lettered(m api.Modes, k api.Key, final byte) []byte {
	switch {
	case k.Mods != 0:
		return control(csi, final, 1, withMods(k))
	case k.Kind == api.KeyF || m.CursorKeys:
		return control(ss3, final)
	}
	return control(csi, final)
}

// withMods tells the number that says what is held with a key.
func withMods(k api.Key) int { return int(k.Mods) + 1 }

// number tells by which number a key's bytes name it; 0, if by none.
func number(k api.Key) int {
	switch k.Kind {
	case api.KeyInsert:
		return 2
	case api.KeyDelete:
		return 3
	case api.KeyPageUp:
		return 5
	case api.KeyPageDown:
		return 6
	case api.KeyF:
		if k.N > 4 {
			return [...]int{15, 17, 18, 19, 20, 21, 23, 24}[k.N-5]
		}
	}
	return 0
}

// numbered tells the bytes of a key that is named by n.
func numbered(k api.Key, n int) []byte {
	if k.Mods != 0 {
		return control(csi, '~', n, withMods(k))
	}
	return control(csi, '~', n)
}

// typed tells the bytes of a key that stands for a rune or a control, but for Alt.
func typed(m api.Modes, k api.Key) []byte {
	switch {
	case k.Kind == api.KeyEnter && m.NewLine:
		return []byte{enter, lineFeed}
	case k.Kind == api.KeyEnter:
		return []byte{enter}
	case k.Kind == api.KeyTab && k.Mods&api.Shift != 0:
		return control(csi, 'Z')
	case k.Kind == api.KeyTab:
		return []byte{tab}
	case k.Kind == api.KeyBack && k.Mods&api.Ctrl != 0:
		return []byte{backspace}
	case k.Kind == api.KeyBack:
		return []byte{rubout}
	case k.Kind == api.KeyEscape:
		return []byte{escape}
	case k.Mods&api.Ctrl != 0:
		return withCtrl(k.R)
	}
	return utf.Encode(k.R)
}

// withCtrl tells the bytes of a rune with Ctrl: most runes have none of their own.
func withCtrl(r int32) []byte {
	switch {
	case r >= 0x40 && r <= 0x5f, r >= 0x61 && r <= 0x7a:
		return []byte{byte(r & 0x1f)}
	case r == ' ':
		return []byte{0}
	case r == '?':
		return []byte{rubout}
	}
	return utf.Encode(r)
}

// behindAlt puts an escape ahead of a key's bytes, if Alt is held.
func behindAlt(k api.Key, b []byte) []byte {
	if k.Mods&api.Alt == 0 {
		return b
	}
	return append([]byte{escape}, b...)
}
