package share_test

import (
	"fmt"

	"couchant/api"
	"couchant/share"
)

// This is the example of README.md.
func Example() {
	var table []api.Equal
	for _, line := range []string{"1 0 equal cow 0 1 1", "2 0 equal sheep 0 1 4"} {
		x, _ := share.Read(line)
		table, _ = share.Append(table, x)
	}
	heads := []api.Head{{Sort: "cow", Number: 2}, {Sort: "sheep", Number: 10}}
	uses, err := share.Uses(table, heads, 0, 0)
	fmt.Println(uses.Num, uses.Den, err)
	// Output: 9 2 0
}
