package keys_test

import (
	"fmt"

	"tactile/api"
	"tactile/keys"
)

func Example() {
	m := api.Modes{CursorKeys: true, Paste: true}
	b, _ := keys.Encode(m, api.Key{Kind: api.KeyUp, Mods: api.Ctrl})
	fmt.Printf("%q\n", b)
	b, _ = keys.Encode(m, api.Key{Kind: api.KeyRune, R: 'x', Mods: api.Alt})
	fmt.Printf("%q\n", b)
	_, err := keys.Encode(m, api.Key{Kind: api.KeyF, N: 13})
	fmt.Println(err == api.ErrArg)
	fmt.Printf("%q\n", keys.Paste(m, []int32{'l', 's', 27, 13, 10}))
	fmt.Printf("%q %q %q\n", keys.Cursor(2, 0), keys.Status(), keys.Device())
	fmt.Printf("%q %q\n", keys.Arrow(m, api.KeyLeft), keys.Arrow(m, api.KeyHome))
	// Output:
	// "\x1b[1;5A"
	// "\x1bx"
	// true
	// "\x1b[200~ls\r\x1b[201~"
	// "\x1b[2;1R" "\x1b[0n" "\x1b[?62;22c"
	// "\x1bOD" ""
}
