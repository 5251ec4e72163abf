package params_test

import (
	"fmt"

	"tactile/params"
)

func Example() {
	l := params.New()
	l.Digit(3)
	l.Digit(8)
	l.Next()
	l.Next()
	l.Digit(5)
	fmt.Println(l.Len(), l.Values())
	fmt.Println(l.At(0, 1), l.At(1, 1), l.At(7, 1))
	l.Clear()
	fmt.Println(l.Len(), l.Values())
	// Output:
	// 3 [38 0 5]
	// 38 1 1
	// 0 []
}
