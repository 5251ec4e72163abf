package parser_test

import (
	"math"
	"slices"
	"strconv"
	"strings"
	"testing"

	"tactile/api"
	"tactile/parser"
)

// hold feeds p and o one rune, and holds what p tells, and its state, against
// the words.
func hold(t *testing.T, about string, p *parser.Parser, o *reader, r int32) {
	t.Helper()
	before := o.state
	want := o.feed(r)
	if got := p.Feed(r); !alike(got, want) {
		t.Fatalf("%s: %#x in %s: told %v, not %v", about, r, before, got, want)
	}
	if got := p.State(); names[got] != o.state {
		t.Fatalf("%s: %#x in %s: state %s, not %s", about, r, before, names[got], o.state)
	}
}

// holdAll holds each rune of a text.
func holdAll(t *testing.T, about string, p *parser.Parser, o *reader, text string) {
	t.Helper()
	for _, r := range text {
		hold(t, about, p, o, r)
	}
}

// both makes a parser and a reader that were fed this text.
func both(t *testing.T, text string) (*parser.Parser, *reader) {
	t.Helper()
	p, o := parser.New(), newReader()
	holdAll(t, strconv.Quote(text), p, o, text)
	return p, o
}

// feed feeds a text, and tells all acts.
func feed(p *parser.Parser, text string) (told []api.Act) {
	for _, r := range text {
		told = append(told, p.Feed(r)...)
	}
	return told
}

func printed(r int32) api.Act  { return api.Act{Kind: api.ActPrint, R: r} }
func executed(r int32) api.Act { return api.Act{Kind: api.ActExec, R: r} }
func said(text string) api.Act { return api.Act{Kind: api.ActOsc, Text: []int32(text)} }

// control is an act of a sequence; private is "" where there is none.
func control(kind uint8, private, inter string, final int32, numbers ...int) api.Act {
	a := api.Act{Kind: kind, Params: numbers, Inter: []int32(inter), Final: final}
	for _, r := range private {
		a.Private = r
	}
	return a
}

// examples are the document's own, and the edges that its words name, with
// the state at the end.
var examples = []struct {
	text  string
	state uint8
	acts  []api.Act
}{
	{"\x1b[?1;25h", api.Ground, []api.Act{control(api.ActCsi, "?", "", 'h', 1, 25)}},
	{"\x1b(0", api.Ground, []api.Act{control(api.ActEsc, "", "(", '0')}},
	{"\x1b[1:2mx", api.Ground, []api.Act{printed('x')}},
	{"\x1b]0;a\a", api.Ground, []api.Act{said("0;a")}},

	{"", api.Ground, nil},
	{" a~é\U0010ffff", api.Ground, []api.Act{printed(' '), printed('a'), printed('~'), printed('é'), printed(0x10ffff)}},
	{"\u00a0\u009a", api.Ground, []api.Act{printed(0xa0), executed(0x9a)}},
	{"\x7f", api.Ground, nil},
	{"\x00\a\n\x1f", api.Ground, []api.Act{executed(0), executed(7), executed(10), executed(0x1f)}},
	{"\x18\x1a\u0080\u0084\u0091\u0099", api.Ground, []api.Act{executed(0x18), executed(0x1a), executed(0x80), executed(0x84), executed(0x91), executed(0x99)}},
	{"\u009c", api.Ground, nil},

	{"\x1b", api.Escape, nil},
	{"\x1bc", api.Ground, []api.Act{control(api.ActEsc, "", "", 'c')}},
	{"\x1b\\", api.Ground, []api.Act{control(api.ActEsc, "", "", '\\')}},
	{"\x1b\x7f\u00e47", api.Ground, []api.Act{control(api.ActEsc, "", "", '7')}},
	{"\x1b\rM", api.Ground, []api.Act{executed('\r'), control(api.ActEsc, "", "", 'M')}},
	{"\x1b\x1b\x1b", api.Escape, nil},
	{"\x1b#", api.EscapeInter, nil},
	{"\x1b#\x1b(B", api.Ground, []api.Act{control(api.ActEsc, "", "(", 'B')}},
	{"\x1b #~", api.Ground, []api.Act{control(api.ActEsc, "", " #", '~')}},
	{"\x1b !/0x", api.Ground, []api.Act{printed('x')}},

	{"\x1b[", api.CsiEntry, nil},
	{"\u009bA", api.Ground, []api.Act{control(api.ActCsi, "", "", 'A')}},
	{"\x1b[;H", api.Ground, []api.Act{control(api.ActCsi, "", "", 'H', 0, 0)}},
	{"\x1b[38;5;", api.CsiParam, nil},
	{"\x1b[>", api.CsiParam, nil},
	{"\x1b[3?hx", api.Ground, []api.Act{printed('x')}},
	{"\x1b[??", api.CsiIgnore, nil},
	{"\x1b[ ", api.CsiInter, nil},
	{"\x1b[2 q", api.Ground, []api.Act{control(api.ActCsi, "", " ", 'q', 2)}},
	{"\x1b[!p", api.Ground, []api.Act{control(api.ActCsi, "", "!", 'p')}},
	{"\x1b[=1;2 /@", api.Ground, []api.Act{control(api.ActCsi, "=", " /", '@', 1, 2)}},
	{"\x1b[1 2q", api.Ground, nil},
	{"\x1b[   mx", api.Ground, []api.Act{printed('x')}},
	{"\x1b[1\n2m", api.Ground, []api.Act{executed('\n'), control(api.ActCsi, "", "", 'm', 12)}},
	{"\x1b[1\x18m", api.Ground, []api.Act{executed(0x18), printed('m')}},
	{"\x1b[1:\n 1;mm", api.Ground, []api.Act{executed('\n'), printed('m')}},
	{"\x1b[99999m", api.Ground, []api.Act{control(api.ActCsi, "", "", 'm', 65535)}},
	{"\x1b[?1$\x1b[m", api.Ground, []api.Act{control(api.ActCsi, "", "", 'm')}},

	{"\x1bP", api.DcsEntry, nil},
	{"\x1bP+q", api.DcsPass, []api.Act{control(api.ActDcs, "", "+", 'q')}},
	{"\u0090<1;2$|ab\x07\n\u00e4", api.DcsPass, []api.Act{control(api.ActDcs, "<", "$", '|', 1, 2)}},
	{"\x1bPqab\x1b\\", api.Ground, []api.Act{control(api.ActDcs, "", "", 'q'), control(api.ActEsc, "", "", '\\')}},
	{"\x1bP1", api.DcsParam, nil},
	{"\x1bP1\n\t2{", api.DcsPass, []api.Act{control(api.ActDcs, "", "", '{', 12)}},
	{"\x1bP$", api.DcsInter, nil},
	{"\x1bP$1", api.DcsIgnore, nil},
	{"\x1bP:q", api.DcsIgnore, nil},
	{"\x1bP1=q\n", api.DcsIgnore, nil},
	{"\x1bP###q", api.DcsPass, nil},
	{"\x1bPq\x18x", api.Ground, []api.Act{control(api.ActDcs, "", "", 'q'), executed(0x18), printed('x')}},

	{"\x1bXab\x07\u00e4\u009cx", api.Ground, []api.Act{printed('x')}},
	{"\x1b^a", api.String, nil},
	{"\x1b_a\x1b", api.Escape, nil},
	{"\u0098\u009e\u009f[", api.String, nil},

	{"\x1b]", api.Osc, nil},
	{"\x1b]\a", api.Ground, []api.Act{said("")}},
	{"\u009d2;ä\x00\n\x7f \u009cx", api.Ground, []api.Act{said("2;ä "), printed('x')}},
	{"\x1b]a\x1b\\", api.Ground, []api.Act{said("a"), control(api.ActEsc, "", "", '\\')}},
	{"\x1b]a\x18", api.Ground, []api.Act{said("a"), executed(0x18)}},
	{"\x1b]a\u0085", api.Ground, []api.Act{said("a"), executed(0x85)}},
	{"\x1b]a\u009db\u009d", api.Osc, []api.Act{said("a"), said("b")}},
	{"\x1b]a\u009b1m", api.Ground, []api.Act{said("a"), control(api.ActCsi, "", "", 'm', 1)}},
	{"\x1b]a\u0090q", api.DcsPass, []api.Act{said("a"), control(api.ActDcs, "", "", 'q')}},
	{"\x1b]a\u0098", api.String, []api.Act{said("a")}},
}

func TestExamples(t *testing.T) {
	for _, x := range examples {
		p := parser.New()
		if got := feed(p, x.text); !alike(got, x.acts) {
			t.Errorf("%q: %v, not %v", x.text, got, x.acts)
		}
		if p.State() != x.state {
			t.Errorf("%q: state %s, not %s", x.text, names[p.State()], names[x.state])
		}
		both(t, x.text) // and the words say the same
	}
}

// TestStatesNumbers: the states are told by numbers in the document's order.
func TestStatesNumbers(t *testing.T) {
	came := map[string]bool{}
	for _, begin := range begins {
		p, o := both(t, begin)
		came[o.state] = true
		if int(p.State()) != slices.Index(names, o.state) {
			t.Errorf("%q: %d", begin, p.State())
		}
	}
	if len(came) != len(names) || len(names) != 14 {
		t.Error("states that were come to:", came)
	}
}

// begins lead to every state, with this and that in hand.
var begins = []string{
	"", "a", "\x1b]ab\a", "\x1b[?1;2 h", "\x1b[ !\"m",
	"\x1b", "\x1b[?1;2 \x1b", "\x1b]ab\x1b", "\x1b###\x1b",
	"\x1b#", "\x1b##", "\x1b###", "\x1b####",
	"\x1b[", "\u009b", "\x1b]ab\u009b", "\x1b[>4;5!\u009b", "\x1b[!!!\u009b",
	"\x1b[0", "\x1b[;", "\x1b[?", "\x1b[<7;65535", "\x1b[1" + strings.Repeat(";1", 31), "\x1b[1" + strings.Repeat(";1", 32),
	"\x1b[ ", "\x1b[=1;2$", "\x1b[ !", "\x1b[ !\"", "\x1b[3 !\"#",
	"\x1b[:", "\x1b[1?", "\x1b[ 1", "\x1b[   ;",
	"\x1bP", "\u0090", "\x1b]ab\u0090", "\x1bP>4;5!\u0090",
	"\x1bP0", "\x1bP;", "\x1bP=", "\x1bP>7;65535", "\x1bP1" + strings.Repeat(";1", 32),
	"\x1bP ", "\x1bP<1;2$", "\x1bP !", "\x1bP !\"", "\x1bP3 !\"#",
	"\x1bPq", "\x1bP1;2|ab", "\x1bP###q",
	"\x1bP:", "\x1bP1?", "\x1bP 1",
	"\x1b]", "\u009d", "\x1b]0;ab", "\x1b]ab\u009d", "\x1b]" + strings.Repeat("a", 1023), "\x1b]" + strings.Repeat("a", 1024), "\x1b]" + strings.Repeat("a", 1025),
	"\x1bX", "\x1b^ab", "\x1b_", "\u0098", "\u009e", "\u009f", "\x1b]ab\u009f",
}

// ends show what was in hand.
var ends = []string{"m", "5;6 A", "?7!h", "##q", "0;x\a", "\u009d\u009c", "\x1b\\", "\x18x", "\x1b[m", "\x1bPq\u009c"}

// edges are runes about the bounds that the document names, but for those
// below 0x200, of which each is fed.
var edges = []int32{
	0x2500, 0x4e00, 0xd7ff, 0xd800, 0xdfff, 0xe000, 0xfffc, 0xfffd, 0xfffe, 0xffff, 0x10000,
	0x10fffe, 0x10ffff, 0x110000, 0x110001, math.MaxInt32, -1, -2, -0x10ffff, -0x80, -0x9b, math.MinInt32,
}

// someRunes are all below 0x200, and the edges.
func someRunes() []int32 {
	var all []int32
	for r := range int32(0x200) {
		all = append(all, r)
	}
	return append(all, edges...)
}

// TestEveryRune feeds in each state each rune, then looks at what is in hand.
func TestEveryRune(t *testing.T) {
	for _, begin := range begins {
		p, o := both(t, begin)
		for _, r := range someRunes() {
			q, u := p.Copy(), o.copy()
			about := strconv.Quote(begin)
			hold(t, about, q, u, r)
			about += " " + strconv.FormatInt(int64(r), 16)
			for _, end := range ends {
				holdAll(t, about+strconv.Quote(end), q.Copy(), u.copy(), end)
			}
		}
	}
}

// TestBeyond feeds each rune from 0xa0 on in each state: all but Ground and
// Osc let them go by.
func TestBeyond(t *testing.T) {
	for _, begin := range begins {
		p, _ := both(t, begin)
		before := p.State()
		for r := int32(0xa0); r <= api.MaxRune; r++ {
			told := p.Feed(r)
			if before == api.Ground && (len(told) != 1 || told[0].Kind != api.ActPrint || told[0].R != r) ||
				before != api.Ground && len(told) != 0 || p.State() != before {
				t.Fatalf("%q: %#x: %v, state %s", begin, r, told, names[p.State()])
			}
		}
	}
}

// TestBad: what is no rune is taken as Bad: it is printed, and stands in a
// text.
func TestBad(t *testing.T) {
	for _, r := range []int32{-1, math.MinInt32, -0x18, -0x1b, 0x110000, math.MaxInt32} {
		p := parser.New()
		if got := p.Feed(r); !alike(got, []api.Act{printed(api.Bad)}) {
			t.Errorf("%d: %v", r, got)
		}
		feed(p, "\x1b]a")
		p.Feed(r)
		if got := feed(p, "b\a"); !alike(got, []api.Act{said("a\ufffdb")}) {
			t.Errorf("%d in a text: %v", r, got)
		}
		feed(p, "\x1b[3")
		if got := p.Feed(r); len(got) != 0 || p.State() != api.CsiParam {
			t.Errorf("%d in a sequence: %v", r, got)
		}
	}
}

// kinds is one rune of each kind or two, as the document parts them.
var kinds = []int32("\x00\x07\x18\x1b\x1f \x2f09:;<?@P[\\]_~\x7f\u0080\u0090\u0098\u009b\u009c\u009d\u00e4")

// everyRow feeds each row of length kinds.
func everyRow(t *testing.T, about string, p *parser.Parser, o *reader, length int) {
	if length == 0 {
		return
	}
	for _, r := range kinds {
		q, u := p.Copy(), o.copy()
		hold(t, about, q, u, r)
		everyRow(t, about+string(r), q, u, length-1)
	}
}

// TestEveryRow feeds each row of up to four kinds of runes, and, in each
// state, of up to two.
func TestEveryRow(t *testing.T) {
	everyRow(t, "", parser.New(), newReader(), 4)
	for _, begin := range begins {
		p, o := both(t, begin)
		everyRow(t, begin, p, o, 2)
	}
}

// TestLongRow feeds one long row to one parser, so that nothing of what went
// before is left.
func TestLongRow(t *testing.T) {
	p, o := parser.New(), newReader()
	for i, x := 0, uint32(1); i < 400000; i++ {
		x = x*1664525 + 1013904223
		hold(t, "step "+strconv.Itoa(i), p, o, kinds[int(x>>16)%len(kinds)])
	}
}

// TestInter: up to two are told; with more there is no act, but the state is
// come to all the same, and the next act is not touched by it.
func TestInter(t *testing.T) {
	for _, x := range []struct {
		begin string
		kind  uint8
		final int32
		state uint8
	}{
		{"\x1b", api.ActEsc, 'F', api.Ground},
		{"\x1b[", api.ActCsi, 'm', api.Ground},
		{"\x1bP", api.ActDcs, 'q', api.DcsPass},
	} {
		for _, inter := range []string{"", " ", "/", " /", "!!", " !/", "!!!!", strings.Repeat("#", 1000)} {
			p := parser.New()
			got := feed(p, x.begin+inter+string(x.final))
			var want []api.Act
			if len(inter) <= 2 {
				want = []api.Act{control(x.kind, "", inter, x.final)}
			}
			if !alike(got, want) || p.State() != x.state {
				t.Errorf("%q %q: %v, state %s", x.begin, inter, got, names[p.State()])
			}
			got = feed(p, x.begin+"$"+string(x.final))
			if !alike(got, []api.Act{control(x.kind, "", "$", x.final)}) {
				t.Errorf("%q behind %q: %v", x.begin, inter, got)
			}
		}
	}
}

// TestNumbers: the bounds of layer 3 are those of an act.
func TestNumbers(t *testing.T) {
	for nexts := 29; nexts < 37; nexts++ {
		for _, begin := range []string{"\x1b[", "\x1b[?", "\x1bP", "\x1bP>"} {
			p, o := both(t, begin)
			holdAll(t, "numbers", p, o, "1"+strings.Repeat(";23", nexts)+"4q")
		}
	}
	got := feed(parser.New(), "\x1b["+strings.Repeat("7;", 31)+"8;9m")
	if len(got) != 1 || len(got[0].Params) != 32 || got[0].Params[31] != 8 {
		t.Error("numbers beyond the bound:", got)
	}
}

// TestPrivate: each of the four is told, of the first place alone.
func TestPrivate(t *testing.T) {
	for r := int32(0x3c); r <= 0x3f; r++ {
		for _, x := range []struct {
			begin string
			kind  uint8
		}{{"\x1b[", api.ActCsi}, {"\u009b", api.ActCsi}, {"\x1bP", api.ActDcs}, {"\u0090", api.ActDcs}} {
			p := parser.New()
			got := feed(p, x.begin+string(r)+"1z"+x.begin+"z"+x.begin+"1"+string(r)+"z")
			want := []api.Act{control(x.kind, string(r), "", 'z', 1), control(x.kind, "", "", 'z')}
			if !alike(got, want) {
				t.Errorf("%q %c: %v", x.begin, r, got)
			}
		}
	}
}

// TestOscBound: of a text the first 1024 runes are told.
func TestOscBound(t *testing.T) {
	for _, n := range []int{0, 1, 1022, 1023, 1024, 1025, 1026, 3000} {
		p := parser.New()
		text := strings.Repeat("0123456789abcdefg", 200)[:n]
		got := feed(p, "\x1b]"+text)
		if len(got) != 0 {
			t.Errorf("%d: told ahead of its end: %v", n, got)
		}
		if got = p.Feed(7); !alike(got, []api.Act{said(text[:min(n, 1024)])}) {
			t.Errorf("%d: %v", n, got)
		}
		if got = feed(p, "\x1b]z\a"); !alike(got, []api.Act{said("z")}) {
			t.Errorf("%d: the next one: %v", n, got)
		}
	}
}

// TestLeavingOsc: whatever leads out of Osc, its text is told ahead of all
// else; whatever does not, tells nothing.
func TestLeavingOsc(t *testing.T) {
	for _, r := range someRunes() {
		p, o := both(t, "\x1b]te")
		leaves := r == 7 || r == 0x18 || r == 0x1a || r == 0x1b || r >= 0x80 && r <= 0x9f
		got := p.Feed(r)
		if leaves != (len(got) > 0) || leaves && !alike(got[:1], []api.Act{said("te")}) || len(got) > 2 {
			t.Errorf("%#x: %v", r, got)
		}
		if !leaves && p.State() != api.Osc {
			t.Errorf("%#x: state %s", r, names[p.State()])
		}
		o.feed(r)
		holdAll(t, "behind "+strconv.Itoa(int(r)), p, o, "\u009dxt\u009c")
	}
}

// TestCan: from whatever state, CAN leads to Ground, and what comes behind it
// is as from the beginning.
func TestCan(t *testing.T) {
	for _, begin := range begins {
		for _, r := range []int32{0x18, 0x1a} {
			p, _ := both(t, begin)
			got := p.Feed(r)
			if len(got) == 0 || !alike(got[len(got)-1:], []api.Act{executed(r)}) || p.State() != api.Ground {
				t.Errorf("%q: %v, state %s", begin, got, names[p.State()])
			}
			for _, next := range begins {
				q, fresh := p.Copy(), parser.New()
				if a, b := feed(q, next+"m"), feed(fresh, next+"m"); !alike(a, b) || q.State() != fresh.State() {
					t.Errorf("%q CAN %q: %v, not %v", begin, next, a, b)
				}
			}
		}
	}
}

// TestCopy: a copy is just like its parser, and neither is moved by the other.
func TestCopy(t *testing.T) {
	for _, begin := range begins {
		for _, one := range ends {
			for _, other := range ends {
				p, o := both(t, begin)
				c, u := p.Copy(), o.copy()
				if c == p || c.State() != p.State() {
					t.Fatalf("%q: copied: state %s", begin, names[c.State()])
				}
				a, b := []int32(one), []int32(other)
				for i := range max(len(a), len(b)) {
					if i < len(a) {
						hold(t, begin+", copied, "+one, p, o, a[i])
					}
					if i < len(b) {
						hold(t, begin+", the copy, "+other, c, u, b[i])
					}
				}
			}
		}
	}
}

// spoil changes all that an answer's lists hold, up to their capacity.
func spoil(acts []api.Act) {
	acts = acts[:cap(acts)]
	for i := range acts {
		a := &acts[i]
		for j := range a.Params[:cap(a.Params)] {
			a.Params[:cap(a.Params)][j] = -7
		}
		for j := range a.Inter[:cap(a.Inter)] {
			a.Inter[:cap(a.Inter)][j] = -7
		}
		for j := range a.Text[:cap(a.Text)] {
			a.Text[:cap(a.Text)][j] = -7
		}
		acts[i] = api.Act{Kind: 99, R: 99}
	}
}

// TestOwnMemory: what is told is neither the parser's, nor its copy's, nor
// another answer's.
func TestOwnMemory(t *testing.T) {
	text := "\x1b[?1;2 !h\x1b(0\x1b]0;ab\u009dcd\u0085x\x1bP1;2$q\x1b]ef\x18"
	clean, spoiled, o := parser.New(), parser.New(), newReader()
	var kept, want []api.Act
	for _, r := range text + text {
		copied := spoiled.Copy()
		kept = append(kept, clean.Feed(r)...)
		told := o.feed(r)
		want = append(want, told...)
		for _, p := range []*parser.Parser{spoiled, copied} {
			got := p.Feed(r)
			if !alike(got, told) {
				t.Fatalf("behind answers that were changed: %v, not %v", got, told)
			}
			spoil(got)
		}
	}
	if !alike(kept, want) {
		t.Errorf("answers changed later: %v, not %v", kept, want)
	}
}

// TestCopyOfOpenText: a parser and its copy do not write into one text.
func TestCopyOfOpenText(t *testing.T) {
	for n := range 40 {
		p := parser.New()
		feed(p, "\x1b]"+strings.Repeat("-", n))
		c := p.Copy()
		feed(p, "one")
		feed(c, "two")
		a, b := p.Feed(7), c.Feed(7)
		if !alike(a, []api.Act{said(strings.Repeat("-", n) + "one")}) || !alike(b, []api.Act{said(strings.Repeat("-", n) + "two")}) {
			t.Errorf("%d: %v, %v", n, a, b)
		}
	}
}

// TestNotThere: one that is not there is fed and asked in vain.
func TestNotThere(t *testing.T) {
	var p *parser.Parser
	for _, r := range someRunes() {
		if got := p.Feed(r); got != nil {
			t.Fatalf("%#x: %v", r, got)
		}
	}
	if p.State() != 0 || p.Copy() != nil {
		t.Error("State", p.State(), "Copy", p.Copy())
	}
}

// TestZero: a zero one is as a new one, whatever comes first.
func TestZero(t *testing.T) {
	for _, begin := range begins {
		for _, end := range ends {
			var p, source parser.Parser
			c := source.Copy()
			if p.State() != api.Ground || c == nil || c.State() != api.Ground {
				t.Fatal("a zero one is not in Ground")
			}
			holdAll(t, "zero "+begin+end, &p, newReader(), begin+end)
			holdAll(t, "zero, copied "+begin+end, c, newReader(), begin+end)
		}
	}
}

// TestApart: two parsers have nothing of one another.
func TestApart(t *testing.T) {
	a, b := parser.New(), parser.New()
	if a == b || a.State() != api.Ground {
		t.Fatal("New")
	}
	feed(a, "\x1b[?1;2")
	if b.State() != api.Ground || !alike(feed(b, "x"), []api.Act{printed('x')}) {
		t.Error("the other one has moved")
	}
}
