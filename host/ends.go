package host

import (
	"tactile/api"
	"tactile/emu"
	"tactile/parser"
	"tactile/utf"
)

// ends are what a Host has within, once it was made: what stays of the host's bytes between two chunks of them, the terminal, and what goes back to the host.
type ends struct {
	decoder *utf.Decoder
	parser  *parser.Parser
	term    *emu.Term
	sent    []byte // what was not asked for yet
}

// bytes does what bytes of the host say. Replies are sent at once, so that they stand ahead of what the user presses later.
func (e *ends) bytes(b []byte) []api.Event {
	e.hand(b, e.term.Do)
	e.send(e.term.Replies())
	return e.term.Journal()
}

// hand hands the acts that bytes say to what does them, one by one. No act is an error.
func (e *ends) hand(b []byte, do func(api.Act) api.Errno) {
	for _, x := range b {
		for _, r := range e.decoder.Feed(x) {
			for _, act := range e.parser.Feed(r) {
				do(act)
			}
		}
	}
}

// send puts bytes behind those that were sent.
func (e *ends) send(b []byte) { e.sent = append(e.sent, b...) }
