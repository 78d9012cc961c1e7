package pound_test

import (
	"fmt"

	"couchant/api"
	"couchant/pound"
)

// This is the example of README.md.
func Example() {
	var reeves []*pound.Reeve
	var disks []*pound.Disk
	for i := range 3 {
		d, _ := pound.NewDisk(4000)
		r, _ := pound.Open(d, i, 3)
		reeves, disks = append(reeves, r), append(disks, d)
	}
	a, b := reeves[0], reeves[1]
	a.Want("ewe-7", 9, 2) // on the day 2, until the day 9
	for _, m := range a.Letters(2) {
		if answer, _ := b.Hear(m, 2); answer != "" {
			a.Hear(answer, 3)
		}
	}
	fmt.Println(a.Holds(3))              // [{ewe-7 3 9 1}]: the reeve itself and another one are a majority
	fmt.Println(b.Want("ewe-7", 5, 3))   // 0 93: the beast is promised
	a.Charge(api.PostFine, 3, 12, 40, 3) // 40 from the owner 12, in the case 3
	letter, _ := a.Hear("have 0 0 0\n", 4)
	fmt.Printf("%q\n", letter) // "post 1\n0 1 3 fine 3 12 40\n"
	b.Hear(letter, 4)
	fmt.Println(b.Pay(api.Ref{Reeve: 0, Number: 1}, 30, 5))  // 1 0: the first posting of b
	fmt.Println(pound.Balance(3, b.Roll(), api.AccTransit))  // -30 0: what a has not had yet
	letter, _ = b.Hear("have 1 0 0\n", 5)                    // what b has, and a has not
	disks[0].Stop(1)                                         // the power fails behind one more call
	fmt.Println(a.Hear(letter, 6))                           // 90: the disk is down
	disks[0].Crash([]int{64})                                // the write that was pending is there as a whole
	a, _ = pound.Open(disks[0], 0, 3)                        // so is the posting
	fmt.Println(a.Settle(7))                                 // 0 0: nothing is left to be paid in
	fmt.Println(pound.Owed(3, a.Roll(), api.Ref{Number: 1})) // 10 0
	fmt.Println(pound.Balance(3, a.Roll(), api.AccTransit))  // 0 0
	fmt.Println(pound.Write(3, a.Roll()[1]))                 // 0 2 7 pay 1 12 30 by 1 1 0
	// Output:
	// [{ewe-7 3 9 1}]
	// 0 93
	// "post 1\n0 1 3 fine 3 12 40\n"
	// 1 0
	// -30 0
	//  90
	// 0 0
	// 10 0
	// 0 0
	// 0 2 7 pay 1 12 30 by 1 1 0
}
