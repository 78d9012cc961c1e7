package mark_test

import (
	"fmt"

	"couchant/api"
	"couchant/mark"
)

// This is the example of README.md.
func Example() {
	smits := api.Smits{Fades: []api.Fade{{Sign: 1, Seen: 0}}} // red may be seen as bare
	for _, line := range []string{"1 0 100 cropped plain red bare bare bare", "2 0 100 cropped plain bare bare bare bare"} {
		m, _ := mark.Read(line)
		smits.Marks = append(smits.Marks, m)
	}
	red, _ := mark.ReadSight("cropped worn red bare bare bare")
	bare, _ := mark.ReadSight("cropped plain bare bare bare bare")
	owners, err := mark.Owners(smits, 0, bare)
	fmt.Println(owners, err)
	found := []api.Sight{bare, red, bare}
	fmt.Println(mark.Assign(smits, 0, found, []api.Claim{{Owner: 1, Number: 1}, {Owner: 2, Number: 2}}))
	fmt.Println(mark.Shortage(smits, 0, found, []api.Claim{{Owner: 1, Number: 2}, {Owner: 2, Number: 2}}))
	// Output:
	// [1 2] 0
	// [2 1 2] true 0
	// [1 2] true 0
}
