package fell_test

import (
	"fmt"

	"couchant/api"
	"couchant/fell"
)

// This is the example of README.md.
func Example() {
	f, fault := fell.ParseFell("fell 2 50\nheaf high\nheaf low\nfold yard\ngate gap high low 20\ngate lane low yard 1000\n")
	fmt.Println(fault)
	var log []api.Report
	for _, line := range []string{"1 0 pass 7 sheep gap 0 5 9", "2 3 pass 7 sheep gap 0 7 30"} {
		x, _ := fell.Read(f, line)
		log, _ = fell.Append(f, log, x)
	}
	gap, _ := fell.MoveArc(f, log[0])
	for _, known := range []int{2, 3} {
		net, _ := fell.NetOf(f, log, known, 7, "sheep")
		arc := net.Arcs[gap]
		fmt.Println(arc.Low, arc.High, arc.LowBy, arc.HighBy)
	}
	fmt.Println(fell.NameArc(f, gap))
	fmt.Println(fell.Ways(f, 0, 2))
	// Output:
	// {0 0}
	// 5 9 1 1
	// 7 9 2 1
	// pass gap 0 0
	// 2 0
}
