package tally_test

import (
	"slices"

	"couchant/api"
)

// fitsCount tells whether a true number fits a count, in the chapter's words.
func fitsCount(r api.Rate, n, c int) bool {
	return c >= n-n*r.Misses/1000 && c <= n+n*r.Doubles/1000
}

// fitsTally tells whether a true number fits a tally: for some of the worn beasts, one after the other.
func fitsTally(r api.Rate, n int, c api.Count) bool {
	for k := range c.Worn + 1 {
		if fitsCount(r, n, c.Number+k) {
			return true
		}
	}
	return false
}

// holding returns all true numbers of which something holds, ascending.
func holding(holds func(n int) bool) []int {
	var l []int
	for n := range api.MaxBeasts + 1 {
		if holds(n) {
			l = append(l, n)
		}
	}
	return l
}

// sameNumbers tells whether an interval is just some numbers, which ascend.
func sameNumbers(x api.Interval, l []int) bool {
	if len(l) == 0 {
		return x == api.Interval{}
	}
	return x == api.Interval{Low: l[0], High: l[len(l)-1], Some: true} && len(l) == x.High-x.Low+1
}

// numbers returns the numbers of an interval.
func numbers(x api.Interval) []int {
	var l []int
	for n := x.Low; x.Some && n <= x.High; n++ {
		l = append(l, n)
	}
	return l
}

// sums returns all sums of one number of each of some intervals, ascending.
func sums(list []api.Interval) []int {
	all := map[int]bool{0: true}
	for _, x := range list {
		more := map[int]bool{}
		for sum := range all {
			for _, n := range numbers(x) {
				more[sum+n] = true
			}
		}
		all = more
	}
	return sorted(all)
}

// differences returns all differences, of at least 0, of a number of a less one of b, ascending.
func differences(a, b api.Interval) []int {
	all := map[int]bool{}
	for _, n := range numbers(a) {
		for _, m := range numbers(b) {
			if n >= m {
				all[n-m] = true
			}
		}
	}
	return sorted(all)
}

func sorted(all map[int]bool) []int {
	var l []int
	for n := range all {
		l = append(l, n)
	}
	slices.Sort(l)
	return l
}

// missesOf returns the misses that a re-count asks, or -1, in the chapter's words.
func missesOf(n, c int) int {
	for m := range api.MaxRate + 1 {
		if n-n*m/1000 <= c {
			return m
		}
	}
	return -1
}

// doublesOf returns the doubles that a re-count asks, or -1.
func doublesOf(n, c int) int {
	for d := range api.MaxRate + 1 {
		if n+n*d/1000 >= c {
			return d
		}
	}
	return -1
}

// countingOf returns the re-counts of a shepherd that count on a day of knowledge.
func countingOf(l []api.Recount, shepherd, known int) []api.Recount {
	return slices.DeleteFunc(slices.Clone(l), func(x api.Recount) bool { return x.Shepherd != shepherd || x.Known > known })
}

// rateOf returns the least rate of at least that of the house by which the True of each re-count fits its Number, if there is one: Misses and Doubles are sought apart, as only one of them matters for a re-count.
func rateOf(house api.Rate, l []api.Recount) (api.Rate, bool) {
	for _, x := range l {
		if !fitsCount(rate(500, 500), x.True, x.Number) {
			return api.Rate{}, false
		}
	}
	least := house
	for slices.ContainsFunc(l, func(x api.Recount) bool { return !fitsCount(rate(least.Misses, 500), x.True, x.Number) }) {
		least.Misses++
	}
	for slices.ContainsFunc(l, func(x api.Recount) bool { return !fitsCount(rate(500, least.Doubles), x.True, x.Number) }) {
		least.Doubles++
	}
	return least, true
}

// why returns the ids of the first re-counts that ask for just the misses, and the doubles, of a rate, if these are more than those of the house.
func why(house, r api.Rate, l []api.Recount) []int {
	ids := map[int]bool{}
	if at := slices.IndexFunc(l, func(x api.Recount) bool { return missesOf(x.True, x.Number) == r.Misses }); r.Misses > house.Misses {
		ids[l[at].Id] = true
	}
	if at := slices.IndexFunc(l, func(x api.Recount) bool { return doublesOf(x.True, x.Number) == r.Doubles }); r.Doubles > house.Doubles {
		ids[l[at].Id] = true
	}
	return sorted(ids)
}
