package emu_test

import (
	"fmt"

	"tactile/api"
	"tactile/emu"
	"tactile/parser"
)

func Example() {
	e, _ := emu.New(2, 4, 100)
	p := parser.New()
	tell := func(text string) {
		for _, r := range text {
			for _, a := range p.Feed(r) {
				e.Do(a)
			}
		}
		g := e.Grid()
		for i, cells := range g.Cells {
			fmt.Print(g.IDs[i], " ")
			for _, c := range cells {
				fmt.Print(string(c.R))
			}
			fmt.Print("|")
		}
		fmt.Println(" at", g.Row, g.Col, g.Pending)
	}
	tell("abcd")
	tell("e")
	for _, v := range e.Journal()[3:] {
		fmt.Println(v.Kind == api.EvPrint, v.Index, v.Line, v.Col, v.Blank, v.Wrap)
	}
	tell("\x1b[2;3Hx")
	tell("\x1b[?1049h")
	tell("\x1b[?1049l")
	tell("\r\nf\x1b[6n")
	fmt.Printf("%q %d %d\n", e.Replies(), e.Prints(), e.Back()[0].ID)
	// Output:
	// 1 abcd|2     | at 0 3 true
	// 1 abcd|2 e   | at 1 1 false
	// true 3 1 3 true false
	// false 0 2 0 false true
	// true 4 2 0 true false
	// 1 abcd|2 e x | at 1 3 false
	// 3     |4     | at 1 3 false
	// 1 abcd|2 e x | at 1 3 false
	// 2 e x |5 f   | at 1 1 false
	// "\x1b[2;2R" 7 1
}
