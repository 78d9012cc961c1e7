package tally_test

import (
	"fmt"

	"couchant/api"
	"couchant/tally"
)

// This is the example of README.md.
func Example() {
	var recounts []api.Recount
	for _, line := range []string{"1 0 0 3 200 190", "2 4 3 3 100 102"} { // the shepherd 3 counted 190 where 200 were, and 102 where 100 were
		x, _ := tally.ReadRecount(line)
		recounts = append(recounts, x)
	}
	house := api.Rate{Misses: 10, Doubles: 10}
	rate, err := tally.RateOf(house, recounts, 3, 4) // by what is known on day 4
	fmt.Println(rate, err)
	first, _ := tally.Read("7 5 3 190 10") // 190 counted, 10 worn beside
	second, _ := tally.Read("8 5 4 205 0")
	fmt.Println(tally.OfCount(rate, first))
	fmt.Println(tally.Passage([]api.Rate{rate, house}, []api.Count{first, second}))
	// Output:
	// {50 20} 0
	// {187 210 true} 0
	// {203 207 true} [] 0
}
