package manor_test

import (
	"fmt"

	"couchant/api"
	"couchant/manor"
)

// This is the example of README.md.
func Example() {
	m, _ := manor.New(api.Setup{
		Reeves: 3, Sectors: 4000, House: api.Rate{Misses: 50}, // shepherds miss at most 50 of a thousand beasts
		Fell:  "fell 2 50\nheaf high\nheaf low\nfold yard\ngate gap high low 20\ngate lane low yard 1000\n",
		Rules: "fine over when use > stints pays 12 * max(0, use - stints)\n",
	})
	for _, text := range []string{
		"table equal sheep 0 1 4", "deed 0 enter 7 5040", // four sheep take up a stint, and the owner 7 has one
		"count stay 7 sheep high 1 3 10 0", "count stay 7 sheep low 1 3 19 0", // what the shepherd 3 has counted
		"bound 7 sheep 1", "step complain 7 1 over", "step summon 1",
	} {
		m.Write(text)
	}
	l := m.Entries()
	fmt.Println(l[7].Body)          // bound 7 sheep 1 29 30 lower 1 2 upper 1 2
	fmt.Println(m.Write("judge 1")) // 101: the owner may still reply
	m.Write("day 21")
	m.Write("judge 1")
	fmt.Println(manor.Judged(m.Books(), 1)) // {3 21 5 1 0 0  1 75} true: the verdict 1, which is sure, and 75
	fmt.Println(m.Charge(1))                // 1 0: the home of the case 1 is the reeve 1
	m.Send(0, 1)                            // the reeve 0 tells the reeve 1 what it has
	m.Carry(0, 1, 0)
	m.Carry(1, 0, 0)
	fmt.Println(m.Roll(0))                               // [{1 1 21 1 1 7 {0 0} {0 0} 75}]
	fmt.Println(manor.Backed(m.Entries(), 3, m.Roll(0))) // 0 0: each fine was judged
	fmt.Println(m.Audit())                               // {true 0 0}
	l = m.Entries()
	l[len(l)-1].Body = "3 21 judge 1 sure 76"
	fmt.Println(manor.Check(l)) // {false 10 6}: the reports do not show that
	// Output:
	// bound 7 sheep 1 29 30 lower 1 2 upper 1 2
	// 101
	// {3 21 5 1 0 0  1 75} true
	// 1 0
	// [{1 1 21 1 1 7 {0 0} {0 0} 75}]
	// 0 0
	// {true 0 0}
	// {false 10 6}
}

// This is the script of README.md.
func ExampleRun() {
	out, _, _ := manor.Run(`setup 3 4000 50 0 2 1
fell 2 50
heaf high
fine over when use > stints pays 12 * max(0, use - stints)
write step complain 7 1 over
case 1
fee 1 4 12 40
roll 1
audit
`)
	fmt.Print(out)
	// Output:
	// ok
	// ok
	// case 1
	// number 1
	// roll 1
	// 1 1 0 fee 4 12 40
	// audit 1 0 0
}
