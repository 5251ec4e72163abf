package tabs_test

import (
	"fmt"

	"tactile/tabs"
)

func Example() {
	t, _ := tabs.New(20)
	fmt.Println(t.Next(0, 1), t.Next(8, 1), t.Next(16, 1))
	fmt.Println(t.Prev(17, 2), t.Prev(8, 1))
	t.ClearAll()
	t.Set(3)
	fmt.Println(t.Next(0, 1), t.Next(3, 1))
	t.Resize(30)
	fmt.Println(t.Stops())
	// Output:
	// 8 16 19
	// 8 0
	// 3 19
	// [3 24]
}
