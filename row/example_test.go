package row_test

import (
	"fmt"

	"tactile/api"
	"tactile/row"
)

func Example() {
	r, _ := row.New(4)
	r.Put(0, 'a', false, api.Attr{})
	r.Put(1, 0x4e00, true, api.Attr{Fg: 2})
	r.Join(2, 0x301)
	fmt.Println(r.Cells())
	r.Put(2, 'x', false, api.Attr{})
	fmt.Println(r.Cells())
	fmt.Println(r.Blank(2), r.Blank(3))
	// Output:
	// [{97 [] 0 {0 0 0}} {19968 [769] 1 {2 0 0}} {0 [] 2 {2 0 0}} {32 [] 0 {0 0 0}}]
	// [{97 [] 0 {0 0 0}} {32 [] 0 {2 0 0}} {120 [] 0 {0 0 0}} {32 [] 0 {0 0 0}}]
	// false true
}
