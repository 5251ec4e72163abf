package modes_test

import (
	"fmt"

	"tactile/modes"
)

func Example() {
	m := modes.Default()
	fmt.Println(modes.Get(m, true, 7))
	m, known := modes.Put(m, true, 1049, true)
	fmt.Println(known, modes.Bits(m))
	fmt.Println(modes.Get(m, true, 47))
	m, known = modes.Put(m, false, 7, false)
	fmt.Println(known, modes.Bits(m))
	fmt.Println(modes.Of(modes.Bits(m)) == m)
	// Output:
	// true true
	// true 112
	// true true
	// false 112
	// true
}
