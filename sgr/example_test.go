package sgr_test

import (
	"fmt"

	"tactile/api"
	"tactile/sgr"
)

func Example() {
	a := sgr.Apply(api.Attr{}, []int{1, 31, 48, 5, 200})
	fmt.Println(a.Flags == api.Bold, a.Fg, a.Bg)
	a = sgr.Apply(a, []int{22, 7, 39, 48, 2, 1, 2, 3})
	fmt.Println(a.Flags == api.Inverse, a.Fg, a.Bg == api.Rgb+66051)
	fmt.Println(sgr.Numbers(a))
	fmt.Println(sgr.May(api.Attr{Fg: 257}))
	// Output:
	// true 2 201
	// true 0 true
	// [0 7 48 2 1 2 3] 0
	// false
}
