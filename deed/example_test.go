package deed_test

import (
	"fmt"

	"couchant/api"
	"couchant/deed"
)

// This is the example of README.md.
func Example() {
	var register []api.Deed
	for _, line := range []string{"1 0 0 enter 1 5040", "2 3 3 grant 1 2 2520", "3 9 5 lease 2 3 1260 8"} {
		x, _ := deed.Read(line)
		register, _ = deed.Append(register, x)
	}
	fmt.Println(deed.Uses(register, 9, 5, 2), deed.Uses(register, 8, 5, 2))
	fmt.Println(deed.Lineage(register, 9, 5, 3))
	// Output:
	// 1260 2520
	// [1 2 3]
}
