package host_test

import (
	"fmt"

	"tactile/api"
	"tactile/host"
)

func Example() {
	h, _ := host.New(1, 4, 100)
	show := func(events []api.Event) {
		for _, c := range h.Grid().Cells[0] {
			fmt.Print(string(c.R))
		}
		fmt.Printf("| %d events, sent %q\n", len(events), h.Sent())
	}
	show(h.Bytes([]byte{0x61, 0xc3}))
	show(h.Bytes([]byte{0xa9}))
	show(h.Bytes([]byte{0x1b, 0x5b}))
	show(h.Bytes([]byte{0x36, 0x6e}))
	h.Key(api.Key{Kind: api.KeyUp})
	show(h.Bytes([]byte("\x1b[?1h")))
	h.Key(api.Key{Kind: api.KeyUp})
	h.Paste([]int32("ls\n"))
	show(nil)
	fmt.Println(h.Key(api.Key{}) == api.ErrArg, h.Spot())
	// Output:
	// a   | 1 events, sent ""
	// aé  | 1 events, sent ""
	// aé  | 0 events, sent ""
	// aé  | 0 events, sent "\x1b[1;3R"
	// aé  | 0 events, sent "\x1b[A"
	// aé  | 0 events, sent "\x1bOAls\r"
	// true {[1] 4 0 2}
}
