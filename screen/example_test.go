package screen_test

import (
	"fmt"

	"tactile/api"
	"tactile/lines"
	"tactile/screen"
)

func Example() {
	s, _ := lines.New(100)
	x, _ := screen.New(4, 3, s, true)
	ids := func() (all []int) {
		for i := range x.Rows() {
			all = append(all, x.ID(i))
		}
		return all
	}
	x.Row(3).Put(0, 'k', false, api.Attr{})
	x.Up(1, api.Attr{})
	fmt.Println(ids(), s.Len())
	x.SetMargins(1, 2)
	x.Down(1, api.Attr{})
	fmt.Println(ids(), s.Len(), x.Find(4), x.Find(3))
	fmt.Println(x.Resize(2, 3, 3))
	fmt.Println(ids(), s.Len())
	// Output:
	// [2 3 4 5] 1
	// [2 6 3 5] 1 -1 2
	// 1 0
	// [3 5] 3
}
