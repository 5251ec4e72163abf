package keys_test

import (
	"fmt"

	"tactile/api"
)

// A key as the chapter tells it: its bytes without Mods, with CursorKeys off and on, and with Mods, where %d is Mods and 1.
type said struct {
	kind          uint8
	n             int
	off, on, held string
}

var named = []said{
	{api.KeyUp, 0, "\x1b[A", "\x1bOA", "\x1b[1;%dA"},
	{api.KeyDown, 0, "\x1b[B", "\x1bOB", "\x1b[1;%dB"},
	{api.KeyRight, 0, "\x1b[C", "\x1bOC", "\x1b[1;%dC"},
	{api.KeyLeft, 0, "\x1b[D", "\x1bOD", "\x1b[1;%dD"},
	{api.KeyEnd, 0, "\x1b[F", "\x1bOF", "\x1b[1;%dF"},
	{api.KeyHome, 0, "\x1b[H", "\x1bOH", "\x1b[1;%dH"},
	{api.KeyInsert, 0, "\x1b[2~", "\x1b[2~", "\x1b[2;%d~"},
	{api.KeyDelete, 0, "\x1b[3~", "\x1b[3~", "\x1b[3;%d~"},
	{api.KeyPageUp, 0, "\x1b[5~", "\x1b[5~", "\x1b[5;%d~"},
	{api.KeyPageDown, 0, "\x1b[6~", "\x1b[6~", "\x1b[6;%d~"},
	{api.KeyF, 1, "\x1bOP", "\x1bOP", "\x1b[1;%dP"},
	{api.KeyF, 2, "\x1bOQ", "\x1bOQ", "\x1b[1;%dQ"},
	{api.KeyF, 3, "\x1bOR", "\x1bOR", "\x1b[1;%dR"},
	{api.KeyF, 4, "\x1bOS", "\x1bOS", "\x1b[1;%dS"},
	{api.KeyF, 5, "\x1b[15~", "\x1b[15~", "\x1b[15;%d~"},
	{api.KeyF, 6, "\x1b[17~", "\x1b[17~", "\x1b[17;%d~"},
	{api.KeyF, 7, "\x1b[18~", "\x1b[18~", "\x1b[18;%d~"},
	{api.KeyF, 8, "\x1b[19~", "\x1b[19~", "\x1b[19;%d~"},
	{api.KeyF, 9, "\x1b[20~", "\x1b[20~", "\x1b[20;%d~"},
	{api.KeyF, 10, "\x1b[21~", "\x1b[21~", "\x1b[21;%d~"},
	{api.KeyF, 11, "\x1b[23~", "\x1b[23~", "\x1b[23;%d~"},
	{api.KeyF, 12, "\x1b[24~", "\x1b[24~", "\x1b[24;%d~"},
}

// bytesOf tells what a key's bytes are by the chapter's words, and whether it may be.
func bytesOf(m api.Modes, k api.Key) (string, bool) {
	if k.Mods > 7 {
		return "", false
	}
	if k.Kind == api.KeyRune {
		return runeBytes(k)
	}
	if k.R != 0 {
		return "", false
	}
	for _, s := range named {
		if s.kind != k.Kind || s.n != k.N {
			continue
		}
		switch {
		case k.Mods > 0:
			return fmt.Sprintf(s.held, k.Mods+1), true
		case m.CursorKeys:
			return s.on, true
		}
		return s.off, true
	}
	return control(m, k)
}

func ifHeld(k api.Key, mod uint8, with, without string) string {
	if k.Mods/mod%2 == 1 {
		return with
	}
	return without
}

func control(m api.Modes, k api.Key) (string, bool) {
	alt := ifHeld(k, 2, "\x1b", "")
	if k.N != 0 {
		return "", false
	}
	switch k.Kind {
	case api.KeyEnter:
		if m.NewLine {
			return alt + "\r\n", true
		}
		return alt + "\r", true
	case api.KeyTab:
		return alt + ifHeld(k, 1, "\x1b[Z", "\t"), true
	case api.KeyBack:
		return alt + ifHeld(k, 4, "\x08", "\x7f"), true
	case api.KeyEscape:
		return alt + "\x1b", true
	}
	return "", false
}

// goodRune: Go makes 0xfffd of a number that is no rune's.
func goodRune(r int32) bool { return r == 0xfffd || string(rune(r)) != "\ufffd" }

func runeBytes(k api.Key) (string, bool) {
	if !goodRune(k.R) || k.N != 0 {
		return "", false
	}
	alt := ifHeld(k, 2, "\x1b", "")
	own := string(rune(k.R))
	if k.Mods < 4 {
		return alt + own, true
	}
	switch {
	case k.R >= 0x40 && k.R < 0x60:
		own = string(rune(k.R - 0x40))
	case k.R > 0x60 && k.R < 0x7b:
		own = string(rune(k.R - 0x60))
	case k.R == 32:
		own = "\x00"
	case k.R == '?':
		own = "\x7f"
	}
	return alt + own, true
}

// pasteOf tells what a pasted text's bytes are by the chapter's words.
func pasteOf(m api.Modes, text []int32) string {
	told := ""
	for i, r := range text {
		switch {
		case r == 13, r == 10 && (i == 0 || text[i-1] != 13):
			told += "\r"
		case !goodRune(r), r >= 0x7f && r <= 0x9f, r < 32 && r != 9:
		default:
			told += string(rune(r))
		}
	}
	if m.Paste {
		return "\x1b[200~" + told + "\x1b[201~"
	}
	return told
}
