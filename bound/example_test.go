package bound_test

import (
	"fmt"

	"couchant/api"
	"couchant/bound"
	"couchant/fell"
)

// This is the example of README.md.
func Example() {
	f, _ := fell.ParseFell("fell 2 0\nheaf high\nheaf low\nfold yard\ngate gap high low 20\ngate lane low yard 1000\n")
	var log []api.Report
	for _, line := range []string{
		"1 0 stay 7 sheep high 0 10 10", "2 0 stay 7 sheep low 0 5 5", "3 0 stay 7 sheep yard 0 0 0",
		"4 2 pass 7 sheep lane 0 3 4", "5 4 stay 7 sheep high 1 20 30",
	} {
		x, _ := fell.Read(f, line)
		log, _ = fell.Append(f, log, x)
	}
	onFell := api.Figure{Owner: 7, Sort: "sheep", Place: api.AllPlaces, Tick: 1}
	fmt.Println(bound.Ends(f, log, 2, onFell))           // 11 12 0: by what is known on day 2
	fmt.Println(bound.Lineage(f, log, 2, onFell, false)) // [1 2 4] 0: on which reports the 11 rests
	fmt.Println(bound.Turned(f, log, 0, 2, 7, "sheep"))  // [1] 0: what came until day 2 has changed the numbers at the tick 1
	gatherings := []api.Gathering{{Place: 2, Tick: 1, Cost: 3}, {Place: 1, Tick: 1, Cost: 5}}
	fmt.Println(bound.Cheapest(f, log, 2, onFell, 11, gatherings)) // {[0] 3} 0: a count in the yard tells whether there are more than 11
	fmt.Println(bound.Doubt(f, log, 4, 7, "sheep"))                // [1 2 5] true 0: these contradict each other
	// Output:
	// 11 12 0
	// [1 2 4] 0
	// [1] 0
	// {[0] 3} 0
	// [1 2 5] true 0
}
