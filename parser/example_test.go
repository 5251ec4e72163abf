package parser_test

import (
	"fmt"

	"tactile/api"
	"tactile/parser"
)

func Example() {
	p := parser.New()
	for _, r := range "\x1b[?1;25hä\x1b(0\x1b]0;a\a" {
		for _, a := range p.Feed(r) {
			switch a.Kind {
			case api.ActPrint:
				fmt.Printf("print %c\n", a.R)
			case api.ActCsi:
				fmt.Printf("csi %c %v %c\n", a.Private, a.Params, a.Final)
			case api.ActEsc:
				fmt.Printf("esc %s %c\n", string(a.Inter), a.Final)
			case api.ActOsc:
				fmt.Printf("osc %s\n", string(a.Text))
			}
		}
	}
	fmt.Println(p.State() == api.Ground)
	// Output:
	// csi ? [1 25] h
	// print ä
	// esc ( 0
	// osc 0;a
	// true
}
