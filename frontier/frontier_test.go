package frontier_test

import (
	"math"
	"math/rand"
	"strings"
	"testing"

	"tactile/api"
	"tactile/frontier"
)

// The events that the tests write as letters. A capital letter: the print or
// echo is not on blanks, the join not of the last print. s is no fresh line, f
// is one; 0 and 6 are kinds of no event.
const letters = "pPeEjJsfor06"

// event is that of a letter.
func event(letter rune) fed {
	switch letter {
	case 'p':
		return fed{e: api.Event{Kind: api.EvPrint, Blank: true}}
	case 'P':
		return fed{e: api.Event{Kind: api.EvPrint}}
	case 'e':
		return fed{api.Event{Kind: api.EvPrint, Blank: true}, true}
	case 'E':
		return fed{api.Event{Kind: api.EvPrint}, true}
	case 'j':
		return fed{e: api.Event{Kind: api.EvJoin, Last: true}}
	case 'J':
		return fed{e: api.Event{Kind: api.EvJoin}}
	case 's':
		return fed{e: api.Event{Kind: api.EvStraight}}
	case 'f':
		return fed{e: api.Event{Kind: api.EvStraight, Fresh: true}}
	case 'o':
		return fed{e: api.Event{Kind: api.EvOther}}
	case 'r':
		return fed{e: api.Event{Kind: api.EvReset}}
	case '0':
		return fed{}
	case '6':
		return fed{e: api.Event{Kind: api.EvReset + 1}}
	}
	panic(letter)
}

// written is the tale of some letters.
func written(text string) tale {
	var t tale
	for _, letter := range text {
		t = append(t, event(letter))
	}
	return t
}

// kindLetters has the letter of each kind, by its number.
const kindLetters = ".ear"

// states are ways that lead to each frontier, on or off, with each kind of
// print that a join may be of; the first one of all is that of a new one.
var states = []struct {
	on     bool
	joined uint8
	ways   string
}{
	{true, api.KindRedraw, " r of or pr Pr er Er ojr Prf orf 0 6 s jf Jf jr Jr jsf prJf prjf Pf EfPf oPf opf orPf Jpf PJf Pjf"},
	{false, api.KindRedraw, "o ro pro ero so oj P oP op osP orP ePj Poj Prop j J sj sJ fj fJ rj prj erJ j0 J6 js Js jj jp Jp PJ jPj pJp"},
	{true, api.KindEcho, "e pe ej re Ef Eof oef ofe oEf Prfe ee pfe e0 e6 es eJf jef Jfe eJrfe jre"},
	{false, api.KindEcho, "E eo oe oE Eo pE oEe Ej EJ Es E0 ej6o eJ eJs eJj pJe je Je rJe prje"},
	{true, api.KindAppend, "p ep Pfp Efp orp pj rp pp fp pof psf ps p0 p6 pJf pjJf jfp Jfp jrp eJfp pJrp prjfp"},
	{false, api.KindAppend, "po ppo pjo poj poJ pos po0 ofpo ppjjo pJ epJ pjJ pJj pJJ pJs pJ0 pfJ psJ jfpJ"},
}

// fresh is a frontier that some events were fed to, each kind and On held.
func fresh(t *testing.T, events tale) *frontier.Front {
	t.Helper()
	f := frontier.New()
	if f == nil || !f.On() {
		t.Fatal("a new one is not there, or off")
	}
	for i := range events {
		advance(t, f, events[:i], events[i])
	}
	return f
}

// advance feeds one more event, and holds what comes of it.
func advance(t *testing.T, f *frontier.Front, behind tale, x fed) {
	t.Helper()
	all := behind.and(x)
	if got, want := x.to(f), all.kind(); got != want {
		t.Fatalf("%v: kind %d, not %d", all, got, want)
	}
	hold(t, f, all)
}

// hold holds a frontier against what was fed to it: On, and what joins would
// be.
func hold(t *testing.T, f *frontier.Front, all tale) {
	t.Helper()
	if got, want := f.On(), all.on(); got != want {
		t.Fatalf("%v: on %v, not %v", all, got, want)
	}
	if got, want := event('j').to(f.Copy()), all.joined(); got != want {
		t.Fatalf("%v: a join of the last print is %d, not %d", all, got, want)
	}
}

// each does something with each state and each way that leads there.
func each(do func(on bool, joined uint8, way string)) {
	for _, s := range states {
		for _, way := range strings.Split(s.ways, " ") {
			do(s.on, s.joined, way)
		}
	}
}

// tellAll holds rows of events against their kinds and the frontier behind
// each, all as letters.
func tellAll(t *testing.T, rows [][3]string) {
	t.Helper()
	for _, row := range rows {
		f, kinds, ons := frontier.New(), "", ""
		for _, x := range written(row[0]) {
			kinds += string(kindLetters[x.to(f)])
			if f.On() {
				ons += "+"
			} else {
				ons += "-"
			}
		}
		if kinds != row[1] || ons != row[2] {
			t.Errorf("%s: %s %s, not %s %s", row[0], kinds, ons, row[1], row[2])
		}
	}
}

// TestExamples: the chapter's.
func TestExamples(t *testing.T) {
	tellAll(t, [][3]string{
		{"pPp", "arr", "+--"},
		{"opfp", ".r.a", "--++"},
	})
}

// TestNew: on, without a print; each one is another one.
func TestNew(t *testing.T) {
	f, other := frontier.New(), frontier.New()
	if f == nil || other == nil || f == other {
		t.Fatal(f, other)
	}
	if !f.On() {
		t.Error("a new one is off")
	}
	if event('j').to(f) != api.KindRedraw {
		t.Error("a new one has a print")
	}
	event('o').to(f)
	if f.On() || !other.On() || !frontier.New().On() {
		t.Error("two new ones are one")
	}
}

// TestStates: the ways lead where they are said to.
func TestStates(t *testing.T) {
	each(func(on bool, joined uint8, way string) {
		f := fresh(t, written(way))
		if f.On() != on || event('j').to(f) != joined {
			t.Errorf("%q does not lead to %v, %d", way, on, joined)
		}
	})
}

// TestPrint: the table's first three rows, told outright.
func TestPrint(t *testing.T) {
	each(func(on bool, _ uint8, way string) {
		for _, x := range []struct {
			letter rune
			from   bool
			kind   uint8
			to     bool
		}{
			{'e', true, api.KindEcho, true},
			{'E', true, api.KindEcho, false},
			{'e', false, api.KindEcho, false},
			{'E', false, api.KindEcho, false},
			{'p', true, api.KindAppend, true},
			{'P', true, api.KindRedraw, false},
			{'p', false, api.KindRedraw, false},
			{'P', false, api.KindRedraw, false},
		} {
			if x.from != on {
				continue
			}
			f := fresh(t, written(way))
			if got := event(x.letter).to(f); got != x.kind || f.On() != x.to {
				t.Errorf("%q, %c: %d %v, not %d %v", way, x.letter, got, f.On(), x.kind, x.to)
			}
			for range 3 {
				if got := event('j').to(f); got != x.kind || f.On() != x.to {
					t.Errorf("%q, %c: a join behind it is %d %v, not %d %v", way, x.letter, got, f.On(), x.kind, x.to)
				}
			}
		}
	})
}

// TestJoin: the table's rows of joins, told outright.
func TestJoin(t *testing.T) {
	tellAll(t, [][3]string{
		// No print has come yet.
		{"j", "r", "-"}, {"J", "r", "-"}, {"jj", "rr", "--"}, {"oj", ".r", "--"}, {"sj", ".r", "+-"}, {"rj", ".r", "+-"}, {"ofj", "..r", "-+-"}, {"fj", ".r", "+-"}, {"0J", ".r", "+-"},
		// Behind a print of each kind, two of them, too.
		{"pj", "aa", "++"}, {"pJ", "ar", "+-"}, {"pjj", "aaa", "+++"}, {"pJj", "ara", "+--"}, {"pjJ", "aar", "++-"}, {"pJJ", "arr", "+--"},
		{"ej", "ee", "++"}, {"eJ", "er", "+-"}, {"ejj", "eee", "+++"}, {"eJj", "ere", "+--"}, {"ejJ", "eer", "++-"},
		{"Ej", "ee", "--"}, {"EJ", "er", "--"}, {"oej", ".ee", "---"},
		{"Pj", "rr", "--"}, {"PJ", "rr", "--"}, {"Pjj", "rrr", "---"}, {"opj", ".rr", "---"},
		// Behind a print, and what is no print.
		{"poj", "a.a", "+--"}, {"psj", "a.a", "+++"}, {"pfj", "a.a", "+++"}, {"p0j", "a.a", "+++"}, {"p6j", "a.a", "+++"},
		{"eoj", "e.e", "+--"}, {"Efj", "e.e", "-++"}, {"Pfj", "r.r", "-++"}, {"poJ", "a.r", "+--"},
		{"psJ", "a.r", "++-"}, {"pfJ", "a.r", "++-"}, {"EfJ", "e.r", "-+-"}, {"PfJ", "r.r", "-+-"}, {"pofJ", "a..r", "+-+-"},
		// Behind a print, and a reset.
		{"prj", "a.r", "++-"}, {"erj", "e.r", "++-"}, {"Erj", "e.r", "-+-"}, {"Prj", "r.r", "-+-"}, {"pjrj", "aa.r", "+++-"}, {"projj", "a..rr", "++---"},
		{"prpj", "a.aa", "++++"}, {"prej", "a.ee", "++++"}, {"erpj", "e.aa", "++++"}, {"prrj", "a..r", "+++-"}, {"prJ", "a.r", "++-"},
		// Behind two prints: the last one counts.
		{"pej", "aee", "+++"}, {"epj", "eaa", "+++"}, {"pPj", "arr", "+--"}, {"Pej", "ree", "---"}, {"ePj", "err", "+--"}, {"Pfpj", "r.aa", "-+++"}, {"pEj", "aee", "+--"},
		{"pjej", "aaee", "++++"}, {"ejpj", "eeaa", "++++"}, {"pjPj", "aarr", "++--"},
	})
}

// TestBehindAJoin: what comes behind a join that has turned the frontier off,
// told outright.
func TestBehindAJoin(t *testing.T) {
	tellAll(t, [][3]string{
		// Prints: none is appended, and a join of one is as it is.
		{"jp", "rr", "--"}, {"Jp", "rr", "--"}, {"pJp", "arr", "+--"}, {"eJp", "err", "+--"}, {"prjp", "a.rr", "++--"}, {"JP", "rr", "--"},
		{"je", "re", "--"}, {"Je", "re", "--"}, {"pJe", "are", "+--"}, {"eJE", "ere", "+--"},
		{"pJpj", "arrr", "+---"}, {"pJej", "aree", "+---"}, {"Jpj", "rrr", "---"}, {"jej", "ree", "---"},
		// A fresh line or a reset turns it on again, all else does not.
		{"jfp", "r.a", "-++"}, {"Jfp", "r.a", "-++"}, {"pJfp", "ar.a", "+-++"}, {"eJfe", "er.e", "+-++"}, {"JfJfp", "r.r.a", "-+-++"},
		{"jrp", "r.a", "-++"}, {"Jrp", "r.a", "-++"}, {"pJrp", "ar.a", "+-++"}, {"prjrp", "a.r.a", "++-++"},
		{"jsp", "r.r", "---"}, {"Jsp", "r.r", "---"}, {"pJsp", "ar.r", "+---"}, {"J0p", "r.r", "---"}, {"j6p", "r.r", "---"}, {"Jop", "r.r", "---"},
		// The last print stays the one that it was, till a reset.
		{"pJfj", "ar.a", "+-++"}, {"eJfj", "er.e", "+-++"}, {"pJoj", "ar.a", "+---"}, {"pJrj", "ar.r", "+-+-"}, {"jfj", "r.r", "-+-"}, {"JrJ", "r.r", "-+-"},
	})
}

// TestJoinInEachState: both rows of joins, with the frontier on and off ahead
// of them, and what a print, a fresh line and a reset behind them are.
func TestJoinInEachState(t *testing.T) {
	each(func(on bool, joined uint8, way string) {
		ahead := written(way)
		for _, letter := range []rune{'j', 'J'} {
			kind, to := api.KindRedraw, false
			if letter == 'j' && ahead.print() >= 0 {
				kind, to = joined, on
			}
			f := fresh(t, ahead)
			if got := event(letter).to(f); got != kind || f.On() != to {
				t.Errorf("%q, %c: %d %v, not %d %v", way, letter, got, f.On(), kind, to)
			}
			if got := event('j').to(f.Copy()); got != joined {
				t.Errorf("%q, %c: the last print is %d, not %d", way, letter, got, joined)
			}
			put := api.KindRedraw
			if to {
				put = api.KindAppend
			}
			if twin := f.Copy(); event('p').to(twin) != put || twin.On() != to {
				t.Errorf("%q, %c: a print behind it is not %d", way, letter, put)
			}
			if twin := f.Copy(); event('e').to(twin) != api.KindEcho || twin.On() != to {
				t.Errorf("%q, %c: an echo behind it does not leave it as it was", way, letter)
			}
			for _, again := range []rune{'f', 'r'} {
				twin := f.Copy()
				if event(again).to(twin); !twin.On() || event('p').to(twin) != api.KindAppend {
					t.Errorf("%q, %c: %c does not turn it on", way, letter, again)
				}
			}
		}
	})
}

// TestStraight: a fresh line turns it on, another one leaves it as it was.
func TestStraight(t *testing.T) {
	each(func(on bool, joined uint8, way string) {
		for letter, want := range map[rune]bool{'s': on, 'f': true} {
			f := fresh(t, written(way))
			if got := event(letter).to(f); got != api.KindNone || f.On() != want || event('j').to(f) != joined {
				t.Errorf("%q, %c: %d %v, not %v", way, letter, got, f.On(), want)
			}
		}
	})
}

// TestOtherAndReset: off and on, whatever was; a reset forgets the print.
func TestOtherAndReset(t *testing.T) {
	each(func(_ bool, joined uint8, way string) {
		f := fresh(t, written(way))
		if got := event('o').to(f); got != api.KindNone || f.On() || event('j').to(f) != joined {
			t.Errorf("%q, other: %d %v", way, got, f.On())
		}
		f = fresh(t, written(way))
		if got := event('r').to(f); got != api.KindNone || !f.On() || event('j').to(f) != api.KindRedraw {
			t.Errorf("%q, reset: %d %v", way, got, f.On())
		}
	})
}

// dressed is an event of a kind, with some flags and far numbers.
func dressed(kind uint8, flags int) api.Event {
	e := api.Event{
		Kind:  kind,
		Blank: flags&1 != 0,
		Last:  flags&2 != 0,
		Fresh: flags&4 != 0,
		Wide:  flags&8 != 0,
		Wrap:  flags&16 != 0,
	}
	if flags&32 != 0 {
		e.Index, e.Line, e.Col, e.R = math.MaxUint64, math.MinInt, math.MaxInt, math.MinInt32
	}
	return e
}

// TestEveryEvent: each kind, those that are none, too, with all flags, as an
// echo and not, in all states.
func TestEveryEvent(t *testing.T) {
	each(func(on bool, joined uint8, way string) {
		ahead := written(way)
		f := fresh(t, ahead)
		for kind := range 256 {
			for flags := range 64 {
				for _, echo := range []bool{false, true} {
					advance(t, f.Copy(), ahead, fed{dressed(uint8(kind), flags), echo})
				}
			}
		}
		if f.On() != on || event('j').to(f) != joined {
			t.Errorf("%q: a copy has changed it", way)
		}
	})
}

// TestAllOthers: kinds that are none change nothing, told outright.
func TestAllOthers(t *testing.T) {
	each(func(on bool, joined uint8, way string) {
		f := fresh(t, written(way))
		for kind := range 256 {
			if kind >= int(api.EvPrint) && kind <= int(api.EvReset) {
				continue
			}
			for flags := range 64 {
				if got := f.Feed(dressed(uint8(kind), flags), flags%2 == 0); got != api.KindNone || f.On() != on {
					t.Fatalf("%q, kind %d: %d %v", way, kind, got, f.On())
				}
			}
		}
		if event('j').to(f) != joined {
			t.Errorf("%q: the print is another one", way)
		}
	})
}

// TestEveryRow: all rows of a few events, each branch a copy of its own.
func TestEveryRow(t *testing.T) {
	var grow func(f *frontier.Front, behind tale, more int)
	grow = func(f *frontier.Front, behind tale, more int) {
		if more == 0 {
			return
		}
		for _, letter := range letters {
			branch := f.Copy()
			advance(t, branch, behind, event(letter))
			grow(branch, behind.and(event(letter)), more-1)
		}
		hold(t, f, behind)
	}
	grow(frontier.New(), nil, 5)
}

// drawn is an event of no plan: seldom a reset, and more often on blanks than
// not, so that much is appended.
func drawn(draw *rand.Rand) fed {
	kind := uint8(draw.Intn(int(api.EvReset) + 2))
	if kind == api.EvReset && draw.Intn(8) > 0 {
		kind = api.EvPrint
	}
	return fed{dressed(kind, draw.Intn(64)|draw.Intn(2)), draw.Intn(4) == 0}
}

// TestLongRows: long drawn rows, against the document's words.
func TestLongRows(t *testing.T) {
	draw := rand.New(rand.NewSource(15))
	for range 400 {
		var all tale
		f := frontier.New()
		for range 200 {
			x := drawn(draw)
			advance(t, f, all, x)
			all = append(all, x)
		}
	}
}

// TestCopy: just like it, and each goes its own way.
func TestCopy(t *testing.T) {
	each(func(on bool, joined uint8, way string) {
		ahead := written(way)
		for _, letter := range letters {
			for _, other := range letters {
				f := fresh(t, ahead)
				twin := f.Copy()
				if twin == nil || twin == f || twin.On() != on {
					t.Fatalf("%q: %v", way, twin)
				}
				advance(t, f, ahead, event(letter))
				hold(t, twin, ahead)
				advance(t, twin, ahead, event(other))
				hold(t, f, ahead.and(event(letter)))
				hold(t, twin.Copy().Copy(), ahead.and(event(other)))
			}
		}
		if got := event('j').to(fresh(t, ahead).Copy()); got != joined {
			t.Errorf("%q: a copy's join is %d", way, got)
		}
	})
}

// TestNotThere: one that is not there tells none, false, nil.
func TestNotThere(t *testing.T) {
	var f *frontier.Front
	for kind := range 256 {
		for flags := range 64 {
			for _, echo := range []bool{false, true} {
				if got := f.Feed(dressed(uint8(kind), flags), echo); got != api.KindNone {
					t.Fatal(kind, flags, echo, got)
				}
			}
		}
		if f.On() || f.Copy() != nil {
			t.Fatal(kind, f.On(), f.Copy())
		}
	}
}

// TestZero: a zero one is as a new one.
func TestZero(t *testing.T) {
	var f frontier.Front
	if !f.On() || f.Copy() == nil || !f.Copy().On() || !new(frontier.Front).Copy().Copy().On() {
		t.Error("a zero one is off, or has no copy")
	}
	hold(t, &f, nil)
	each(func(_ bool, _ uint8, way string) {
		var f, copied frontier.Front
		twin := copied.Copy()
		ahead := written(way)
		for i, x := range ahead {
			advance(t, &f, ahead[:i], x)
			advance(t, twin, ahead[:i], x)
		}
		hold(t, &copied, nil)
	})
	for kind := range 256 {
		for flags := range 64 {
			for _, echo := range []bool{false, true} {
				var f frontier.Front
				advance(t, &f, nil, fed{dressed(uint8(kind), flags), echo})
			}
		}
	}
}
