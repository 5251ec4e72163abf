package parser

import "tactile/api"

// Behind the controls runes of a sequence lie in this order: 0x20 to 0x2f are
// collected, then come digits and what stands beside them, then the finals.
const (
	firstNumber  = 0x30
	firstPrivate = 0x3c
	firstFinal   = 0x40
)

// steps tells, by the states' numbers, what takes a rune of 0x20 to 0x7e
// there.
func steps() [api.String + 1]func(*Parser, int32) []api.Act {
	return [...]func(*Parser, int32) []api.Act{
		api.Ground:      (*Parser).ground,
		api.Escape:      (*Parser).escape,
		api.EscapeInter: (*Parser).escapeInter,
		api.CsiEntry:    (*Parser).entry,
		api.CsiParam:    (*Parser).param,
		api.CsiInter:    (*Parser).inter,
		api.CsiIgnore:   (*Parser).csiIgnore,
		api.DcsEntry:    (*Parser).entry,
		api.DcsParam:    (*Parser).param,
		api.DcsInter:    (*Parser).inter,
		api.DcsPass:     (*Parser).nothing,
		api.DcsIgnore:   (*Parser).nothing,
		api.Osc:         (*Parser).osc,
		api.String:      (*Parser).nothing,
	}
}

func (p *Parser) ground(r int32) []api.Act {
	return []api.Act{{Kind: api.ActPrint, R: r}}
}

func (p *Parser) escape(r int32) []api.Act {
	switch r {
	case 'P':
		return p.lead(api.DcsEntry)
	case 'X', '^', '_':
		return p.lead(api.String)
	case '[':
		return p.lead(api.CsiEntry)
	case ']':
		return p.lead(api.Osc)
	}
	// All others do what they do behind a collected one.
	return p.escapeInter(r)
}

func (p *Parser) escapeInter(r int32) []api.Act {
	if r < firstNumber {
		p.seq.collect(r)
		return p.lead(api.EscapeInter)
	}
	return p.finish(api.ActEsc, r, api.Ground)
}

// entry, param and inter let less and less come: what one does not take is
// the next one's.
func (p *Parser) entry(r int32) []api.Act {
	if r >= firstPrivate && r < firstFinal {
		p.seq.private = r
		return p.lead(p.course().param)
	}
	return p.param(r)
}

func (p *Parser) param(r int32) []api.Act {
	switch {
	case r >= '0' && r <= '9':
		p.seq.numbers.Digit(int(r - '0'))
		return p.lead(p.course().param)
	case r == ';':
		p.seq.numbers.Next()
		return p.lead(p.course().param)
	}
	return p.inter(r)
}

func (p *Parser) inter(r int32) []api.Act {
	c := p.course()
	switch {
	case r < firstNumber:
		p.seq.collect(r)
		return p.lead(c.inter)
	case r < firstFinal:
		return p.lead(c.ignore)
	}
	return p.finish(c.act, r, c.end)
}

func (p *Parser) csiIgnore(r int32) []api.Act {
	if r < firstFinal {
		return nil
	}
	return p.lead(api.Ground)
}

func (p *Parser) osc(r int32) []api.Act {
	if len(p.text) < api.MaxOsc {
		p.text = append(p.text, r)
	}
	return nil
}

func (p *Parser) nothing(int32) []api.Act { return nil }

// finish tells the act of what came since its beginning, and leads to the
// state behind it, also where there is none.
func (p *Parser) finish(kind uint8, final int32, state uint8) []api.Act {
	return append(p.lead(state), p.seq.acts(kind, final)...)
}

// course is the states that a control sequence may come to, and its act.
type course struct{ param, inter, ignore, end, act uint8 }

// course tells that of the sequence that is open: the Csi states and the Dcs
// ones lead on alike.
func (p *Parser) course() course {
	switch p.state {
	case api.DcsEntry, api.DcsParam, api.DcsInter:
		return course{
			param: api.DcsParam, inter: api.DcsInter, ignore: api.DcsIgnore,
			end: api.DcsPass, act: api.ActDcs,
		}
	}
	return course{
		param: api.CsiParam, inter: api.CsiInter, ignore: api.CsiIgnore,
		end: api.Ground, act: api.ActCsi,
	}
}
