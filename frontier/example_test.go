package frontier_test

import (
	"fmt"

	"tactile/api"
	"tactile/frontier"
)

func Example() {
	f := frontier.New()
	put := api.Event{Kind: api.EvPrint, R: 'a', Blank: true}
	fmt.Println(f.Feed(put, true) == api.KindEcho, f.Feed(put, false) == api.KindAppend, f.On())
	f.Feed(api.Event{Kind: api.EvOther}, false)
	fmt.Println(f.Feed(put, false) == api.KindRedraw, f.On())
	f.Feed(api.Event{Kind: api.EvStraight, Fresh: true}, false)
	fmt.Println(f.Feed(put, false) == api.KindAppend, f.On())
	// Output:
	// true true true
	// true false
	// true true
}
