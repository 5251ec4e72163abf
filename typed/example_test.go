package typed_test

import (
	"fmt"

	"tactile/typed"
)

func Example() {
	l, _ := typed.New(5)
	l.Type('a', 0)
	l.Type('b', 3)
	fmt.Println(l.Waits(4), l.Waits(5), l.Waits(8))
	fmt.Println(l.Take('b', 4), l.Take('a', 4))
	l.Type('c', 4)
	fmt.Println(l.Take('c', 8), l.Waits(8))
	// Output:
	// [97 98] [98] []
	// false true
	// true []
}
