package rule_test

import (
	"fmt"

	"couchant/api"
	"couchant/rule"
)

// This is the example of README.md.
func Example() {
	w, fault := rule.Parse("fine over when use > stints + 2 pays 12 * max(0, use - stints)\nseize when use > 2 * stints\n")
	fmt.Println(fault) // {0 0}: no error, in no line
	plight := func(cows, sheep int) api.Plight {
		return api.Plight{Tick: 4, Stints: api.Frac{Num: 3, Den: 1}, Herds: []api.Herd{
			{Sort: "cow", Number: cows, Each: api.Frac{Num: 1, Den: 1}}, {Sort: "sheep", Number: sheep, Each: api.Frac{Num: 1, Den: 4}},
		}}
	}
	fmt.Println(rule.Fine(w, 0, plight(4, 6)))                // {30 1} 0
	fmt.Println(rule.Judge(w, 0, plight(4, 6), plight(5, 8))) // {1 {30 1} {48 1}} 0: it is sure, and 30 are justified by all that may be true
	fmt.Println(rule.Judge(w, 0, plight(4, 4), plight(4, 8))) // {3 {0 1} {36 1}} 0: it is open
	fmt.Println(rule.MaySeize(w, plight(4, 6), plight(6, 6))) // 3 0: so is this
	fmt.Println(rule.Blames(w, 0, plight(4, 6)))              // [cow sheep] 0: without these it would be less
	fmt.Println(rule.Spare(w, 0, plight(4, 0), "sheep", 10))  // 4 0: so many sheep more make it no greater
	_, fault = rule.Parse("fine few when cow < 3 pays 1")
	fmt.Println(fault) // {81 1}: a fine that falls when there are more beasts, in line 1
	// Output:
	// {0 0}
	// {30 1} 0
	// {1 {30 1} {48 1}} 0
	// {3 {0 1} {36 1}} 0
	// 3 0
	// [cow sheep] 0
	// 4 0
	// {81 1}
}
