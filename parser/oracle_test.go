package parser_test

import (
	"slices"
	"strconv"
	"strings"
	"sync"

	"tactile/api"
)

// A rule says what comes of a rune of those from first to last in one of these
// states: what is done, and the state that is come to, "" where it stays.
type rule struct {
	states      string // their names, a blank behind each; "" all of them
	first, last int32
	does        string
	to          string
}

// names are the states' names, in the order of their numbers.
var names = []string{
	"Ground", "Escape", "EscapeInter",
	"CsiEntry", "CsiParam", "CsiInter", "CsiIgnore",
	"DcsEntry", "DcsParam", "DcsInter", "DcsPass", "DcsIgnore",
	"Osc", "String",
}

// The document's words, one behind the other, written apart from the
// program's, so that a slip in either shows. The first rule that is of the
// state and the rune holds.
var words = []rule{
	{"", 0x18, 0x18, "exec", "Ground"},
	{"", 0x1a, 0x1a, "exec", "Ground"},
	{"", 0x1b, 0x1b, "", "Escape"},
	{"", 0x80, 0x8f, "exec", "Ground"},
	{"", 0x91, 0x97, "exec", "Ground"},
	{"", 0x99, 0x9a, "exec", "Ground"},
	{"", 0x9c, 0x9c, "", "Ground"},
	{"", 0x90, 0x90, "", "DcsEntry"},
	{"", 0x98, 0x98, "", "String"},
	{"", 0x9e, 0x9f, "", "String"},
	{"", 0x9b, 0x9b, "", "CsiEntry"},
	{"", 0x9d, 0x9d, "", "Osc"},
	{"", 0x7f, 0x7f, "", ""},

	{"Ground ", 0xa0, 0x10ffff, "print", ""},
	{"Osc ", 0xa0, 0x10ffff, "text", ""},
	{"", 0xa0, 0x10ffff, "", ""},

	{"Ground Escape EscapeInter CsiEntry CsiParam CsiInter CsiIgnore ", 0x00, 0x1f, "exec", ""},
	{"Osc ", 0x07, 0x07, "", "Ground"},
	{"", 0x00, 0x1f, "", ""},

	{"Ground ", 0x20, 0x7e, "print", ""},

	{"Escape ", 0x20, 0x2f, "collect", "EscapeInter"},
	{"Escape ", 0x50, 0x50, "", "DcsEntry"},
	{"Escape ", 0x58, 0x58, "", "String"},
	{"Escape ", 0x5e, 0x5f, "", "String"},
	{"Escape ", 0x5b, 0x5b, "", "CsiEntry"},
	{"Escape ", 0x5d, 0x5d, "", "Osc"},
	{"Escape ", 0x30, 0x7e, "esc", "Ground"},

	{"EscapeInter ", 0x20, 0x2f, "collect", ""},
	{"EscapeInter ", 0x30, 0x7e, "esc", "Ground"},

	{"CsiEntry ", 0x3c, 0x3f, "private", "CsiParam"},
	{"DcsEntry ", 0x3c, 0x3f, "private", "DcsParam"},
	{"CsiParam ", 0x3c, 0x3f, "", "CsiIgnore"},
	{"DcsParam ", 0x3c, 0x3f, "", "DcsIgnore"},

	{"CsiEntry CsiParam ", 0x30, 0x39, "number", "CsiParam"},
	{"DcsEntry DcsParam ", 0x30, 0x39, "number", "DcsParam"},
	{"CsiEntry CsiParam ", 0x3b, 0x3b, "number", "CsiParam"},
	{"DcsEntry DcsParam ", 0x3b, 0x3b, "number", "DcsParam"},
	{"CsiEntry CsiParam ", 0x3a, 0x3a, "", "CsiIgnore"},
	{"DcsEntry DcsParam ", 0x3a, 0x3a, "", "DcsIgnore"},
	{"CsiEntry CsiParam ", 0x20, 0x2f, "collect", "CsiInter"},
	{"DcsEntry DcsParam ", 0x20, 0x2f, "collect", "DcsInter"},
	{"CsiEntry CsiParam ", 0x40, 0x7e, "csi", "Ground"},
	{"DcsEntry DcsParam ", 0x40, 0x7e, "dcs", "DcsPass"},

	{"CsiInter DcsInter ", 0x20, 0x2f, "collect", ""},
	{"CsiInter ", 0x30, 0x3f, "", "CsiIgnore"},
	{"DcsInter ", 0x30, 0x3f, "", "DcsIgnore"},
	{"CsiInter ", 0x40, 0x7e, "csi", "Ground"},
	{"DcsInter ", 0x40, 0x7e, "dcs", "DcsPass"},

	{"CsiIgnore ", 0x40, 0x7e, "", "Ground"},
	{"CsiIgnore ", 0x20, 0x3f, "", ""},

	{"Osc ", 0x20, 0x7e, "text", ""},
	{"DcsPass DcsIgnore String ", 0x20, 0x7e, "", ""},
}

// find tells the rule of a state and a rune. From 0xa0 on all are as that one.
func find(state string, r int32) rule { return found()[state][min(r, 0xa0)] }

// found holds what was looked up, for each state and each rune up to 0xa0.
var found = sync.OnceValue(func() map[string][]rule {
	all := map[string][]rule{}
	for _, state := range names {
		for r := range int32(0xa1) {
			all[state] = append(all[state], lookUp(state, r))
		}
	}
	return all
})

func lookUp(state string, r int32) rule {
	for _, w := range words {
		if (w.states == "" || strings.Contains(" "+w.states, " "+state+" ")) && r >= w.first && r <= w.last {
			return w
		}
	}
	panic("no rule for " + state + " " + strconv.Itoa(int(r)))
}

// A reader goes by the words. It keeps all that came, of whatever length, and
// takes of it what counts only when an act is told.
type reader struct {
	state          string
	private        int32
	numbers        string
	inter, osctext []int32
}

func newReader() *reader { return &reader{state: "Ground"} }

func (o *reader) copy() *reader {
	c := *o
	c.inter, c.osctext = slices.Clone(o.inter), slices.Clone(o.osctext)
	return &c
}

// feed is what Feed should tell.
func (o *reader) feed(r int32) (told []api.Act) {
	if r < 0 || r > 0x10ffff {
		r = 0xfffd
	}
	w := find(o.state, r)
	if o.state == "Osc" && w.to != "" {
		told = append(told, api.Act{Kind: api.ActOsc, Text: slices.Clone(o.osctext[:min(len(o.osctext), 1024)])})
	}
	told = append(told, o.do(w.does, r)...)
	if w.to == "Escape" || w.to == "CsiEntry" || w.to == "DcsEntry" {
		o.private, o.numbers, o.inter = 0, "", nil
	}
	if w.to == "Osc" {
		o.osctext = nil
	}
	if w.to != "" {
		o.state = w.to
	}
	return told
}

// do does what a rule says.
func (o *reader) do(what string, r int32) []api.Act {
	switch what {
	case "print":
		return []api.Act{{Kind: api.ActPrint, R: r}}
	case "exec":
		return []api.Act{{Kind: api.ActExec, R: r}}
	case "collect":
		o.inter = append(slices.Clone(o.inter), r)
	case "text":
		o.osctext = append(o.osctext, r)
	case "private":
		o.private = r
	case "number":
		o.numbers += string(r)
	case "esc":
		return o.act(api.Act{Kind: api.ActEsc, Final: r})
	case "csi":
		return o.act(api.Act{Kind: api.ActCsi, Private: o.private, Params: worth(o.numbers), Final: r})
	case "dcs":
		return o.act(api.Act{Kind: api.ActDcs, Private: o.private, Params: worth(o.numbers), Final: r})
	}
	return nil
}

// act is a with what was collected, if that is no more than may be.
func (o *reader) act(a api.Act) []api.Act {
	if len(o.inter) > 2 {
		return nil
	}
	a.Inter = slices.Clone(o.inter)
	return []api.Act{a}
}

// worth is the numbers that digits and ';' make (layer 3).
func worth(numbers string) (told []int) {
	if numbers == "" {
		return nil
	}
	for i, digits := range strings.Split(numbers, ";") {
		if i == 32 {
			break
		}
		digits = strings.TrimLeft(digits, "0")
		n, err := strconv.Atoi("0" + digits)
		if err != nil || n > 65535 {
			n = 65535
		}
		told = append(told, n)
	}
	return told
}

// alike tells whether two answers say the same. A list that is not there and
// an empty one are one.
func alike(a, b []api.Act) bool {
	return slices.EqualFunc(a, b, func(x, y api.Act) bool {
		return x.Kind == y.Kind && x.R == y.R && x.Private == y.Private && x.Final == y.Final &&
			slices.Equal(x.Params, y.Params) && slices.Equal(x.Inter, y.Inter) && slices.Equal(x.Text, y.Text)
	})
}
