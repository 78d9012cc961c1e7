package tally

import (
	"iter"
	"slices"

	"couchant/api"
)

// leastRate returns the least rate that holds, if one does, for a re-count that can be one.
func leastRate(n, c int, holds func(rate int) bool) (int, bool) {
	if !isTrue(n) || n == 0 || !isCounted(c) {
		return 0, false
	}
	return search{api.MaxRate + 1, upwards, holds}.first()
}

// Misses returns how many of a thousand a shepherd misses at least who counts c where n are, if a rate explains it.
func Misses(n, c int) (int, bool) {
	return leastRate(n, c, func(rate int) bool { return least(api.Rate{Misses: rate}, n) <= c })
}

// Doubles returns how many of a thousand a shepherd counts twice at least who counts c where n are, if a rate explains it.
func Doubles(n, c int) (int, bool) {
	return leastRate(n, c, func(rate int) bool { return greatest(api.Rate{Doubles: rate}, n) >= c })
}

// counting yields the re-counts that count on a day of knowledge.
func counting(l []api.Recount, known int) iter.Seq[api.Recount] {
	return func(yield func(api.Recount) bool) {
		for _, x := range l {
			if x.Known <= known && !yield(x) {
				return
			}
		}
	}
}

// countingOf yields those of a shepherd.
func countingOf(l []api.Recount, shepherd, known int) iter.Seq[api.Recount] {
	return func(yield func(api.Recount) bool) {
		for x := range counting(l, known) {
			if x.Shepherd == shepherd && !yield(x) {
				return
			}
		}
	}
}

// asks returns the least rate that explains a re-count, if one does.
func asks(x api.Recount) (api.Rate, bool) {
	misses, some := Misses(x.True, x.Number)
	doubles, someToo := Doubles(x.True, x.Number)
	return api.Rate{Misses: misses, Doubles: doubles}, some && someToo
}

// check returns why a rate or re-counts are not valid.
func check(r api.Rate, l []api.Recount) api.Errno {
	if !isRate(r) {
		return api.ErrArg
	}
	_, e := CheckRecounts(l)
	return e
}

// Counting returns the re-counts that count on a day of knowledge.
func Counting(l []api.Recount, known int) []api.Recount { return slices.Collect(counting(l, known)) }

// RateOf returns the least rate that is at least that of the house, and what each re-count of a shepherd asks.
func RateOf(house api.Rate, l []api.Recount, shepherd, known int) (api.Rate, api.Errno) {
	if e := check(house, l); e != api.OK {
		return api.Rate{}, e
	}
	rate := house
	for x := range countingOf(l, shepherd, known) {
		asked, some := asks(x)
		if !some {
			return api.Rate{}, api.ErrContrary
		}
		rate = api.Rate{Misses: max(rate.Misses, asked.Misses), Doubles: max(rate.Doubles, asked.Doubles)}
	}
	return rate, api.OK
}

// Why returns the first re-counts that ask just what RateOf returns, if it is more than the rate of the house.
func Why(house api.Rate, l []api.Recount, shepherd, known int) ([]int, api.Errno) {
	rate, e := RateOf(house, l, shepherd, known)
	if e != api.OK {
		return nil, e
	}
	var ids []int
	misses, doubles := rate.Misses > house.Misses, rate.Doubles > house.Doubles
	for x := range countingOf(l, shepherd, known) {
		asked, _ := asks(x)
		// None asks for both, so no one stands for both here.
		switch {
		case misses && asked.Misses == rate.Misses:
			ids, misses = append(ids, x.Id), false
		case doubles && asked.Doubles == rate.Doubles:
			ids, doubles = append(ids, x.Id), false
		}
	}
	return ids, api.OK
}

// Wrong returns the re-counts of a shepherd that a rate does not explain.
func Wrong(r api.Rate, l []api.Recount, shepherd, known int) ([]int, api.Errno) {
	if e := check(r, l); e != api.OK {
		return nil, e
	}
	var ids []int
	for x := range countingOf(l, shepherd, known) {
		if !fits(r, x.True, x.Number) {
			ids = append(ids, x.Id)
		}
	}
	return ids, api.OK
}
