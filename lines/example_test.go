package lines_test

import (
	"fmt"

	"tactile/api"
	"tactile/lines"
)

func Example() {
	s, _ := lines.New(2)
	for _, x := range "abc" {
		l, _ := s.Fresh(1, api.Attr{})
		l.Row.Put(0, x, false, api.Attr{})
		s.Push(l)
	}
	fmt.Println(s.Len(), s.Find(1), s.Find(3))
	fmt.Println(s.At(0))
	fmt.Println(s.At(1))
	s.Clear()
	fmt.Println(s.Len(), s.Next())
	// Output:
	// 2 -1 1
	// {2 [{98 [] 0 {0 0 0}}]} 0
	// {3 [{99 [] 0 {0 0 0}}]} 0
	// 0 4
}
