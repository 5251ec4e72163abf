package chartab_test

import (
	"fmt"

	"tactile/api"
	"tactile/chartab"
)

func Example() {
	fmt.Println(chartab.Width(0x4e00), chartab.Class(0x4e00) == api.ClassOther)
	fmt.Printf("%#x\n", chartab.Charset(api.CharGraphics, 'q'))
	fmt.Println(chartab.Name('@'))
	// Output:
	// 2 true
	// 0x2500
	// at 1
}
