package utf_test

import (
	"fmt"

	"tactile/utf"
)

func Example() {
	d := utf.New()
	for _, b := range []byte{0x61, 0xc3, 0xa4} {
		fmt.Println(d.Feed(b), d.Open())
	}
	fmt.Println(utf.Decode([]byte{0xf0, 0x90, 0x61}))
	fmt.Printf("% x\n", utf.Encode(0xe4))
	// Output:
	// [97] 0
	// [] 1
	// [228] 0
	// [65533 97]
	// c3 a4
}
