package tally

import (
	"sort"

	"couchant/api"
)

// search goes through numbers in some order, in which those that hold come behind all others.
type search struct {
	size  int
	at    func(i int) int
	holds func(n int) bool
}

// first returns the first number that holds, if one does.
func (s search) first() (int, bool) {
	i := sort.Search(s.size, func(i int) bool { return s.holds(s.at(i)) })
	if i == s.size {
		return 0, false
	}
	return s.at(i), true
}

func upwards(i int) int { return i }

func downwards(i int) int { return api.MaxBeasts - i }

// least returns the least count that a true number fits.
func least(r api.Rate, n int) int { return n - n*r.Misses/1000 }

// greatest returns the greatest count that a true number fits.
func greatest(r api.Rate, n int) int { return n + n*r.Doubles/1000 }

func fits(r api.Rate, n, c int) bool { return within(least(r, n), greatest(r, n), c) }

// allowed returns the true numbers that fit a count from low to high.
// From one true number to the next one, the least count rises by at most one and the greatest one by at least one; so nothing is left out in between.
func allowed(r api.Rate, low, high int) span {
	from, someFrom := search{api.MaxBeasts + 1, upwards, func(n int) bool { return greatest(r, n) >= low }}.first()
	to, someTo := search{api.MaxBeasts + 1, downwards, func(n int) bool { return least(r, n) <= high }}.first()
	if !someFrom || !someTo {
		return span{}
	}
	return span{from, to, true}
}

// allowedBy returns the true numbers that fit a tally.
func allowedBy(r api.Rate, c api.Count) span { return allowed(r, c.Number, c.Number+c.Worn) }

// Fits tells whether a true number fits a count.
func Fits(r api.Rate, n, c int) (bool, api.Errno) {
	if !isRate(r) || !isTrue(n) || !isCounted(c) {
		return false, api.ErrArg
	}
	return fits(r, n, c), api.OK
}

// Shown returns the least and the greatest count that a true number fits.
func Shown(r api.Rate, n int) (low, high int, e api.Errno) {
	if !isRate(r) || !isTrue(n) {
		return 0, 0, api.ErrArg
	}
	return least(r, n), greatest(r, n), api.OK
}

// True returns the true numbers that fit a count.
func True(r api.Rate, c int) (api.Interval, api.Errno) {
	if !isRate(r) || !isCounted(c) {
		return api.Interval{}, api.ErrArg
	}
	return api.Interval(allowed(r, c, c)), api.OK
}

// OfCount returns the true numbers that fit a tally.
func OfCount(r api.Rate, c api.Count) (api.Interval, api.Errno) {
	if !isRate(r) || !isCount(c) {
		return api.Interval{}, api.ErrArg
	}
	return api.Interval(allowedBy(r, c)), api.OK
}

// Gathered returns how many were there at least, if some of those that were counted were perhaps not found.
func Gathered(r api.Rate, c api.Count) (int, api.Errno) {
	if !isRate(r) || !isCount(c) {
		return 0, api.ErrArg
	}
	return allowed(r, c.Number, c.Number).Low, api.OK
}
