package tally_test

import (
	"math/rand/v2"
	"testing"

	"couchant/api"
	"couchant/tally"
)

func mustOK(t testing.TB, what string, e api.Errno) {
	t.Helper()
	if e != api.OK {
		t.Fatalf("%s: error %d", what, e)
	}
}

// rate returns the rate with some misses and doubles.
func rate(misses, doubles int) api.Rate { return api.Rate{Misses: misses, Doubles: doubles} }

// to returns the interval from low to high.
func to(low, high int) api.Interval { return api.Interval{Low: low, High: high, Some: true} }

// none is the interval without numbers.
func none() api.Interval { return api.Interval{} }

// counted returns a tally.
func counted(number, worn int) api.Count {
	return api.Count{Id: 1, Shepherd: 1, Number: number, Worn: worn}
}

// recounts returns the re-counts of some lines.
func recounts(t testing.TB, lines ...string) []api.Recount {
	t.Helper()
	var l []api.Recount
	for _, line := range lines {
		x, e := tally.ReadRecount(line)
		mustOK(t, "ReadRecount of "+line, e)
		l = append(l, x)
	}
	return l
}

// sample is re-counts of two shepherds: 1 misses 50 of a thousand, later 80, and counts 30 twice; 2 counts right, later 600 twice.
func sample(t testing.TB) []api.Recount {
	return recounts(t, "1 0 0 1 200 190", "2 0 0 1 100 103", "3 2 1 2 50 50", "5 3 0 1 200 190", "7 4 4 1 50 46", "8 5 4 2 100 160", "9 6 9 1 100 103")
}

func random(seed uint64) *rand.Rand { return rand.New(rand.NewPCG(seed, 14)) }

// pick returns one of the items.
func pick[T any](r *rand.Rand, items ...T) T { return items[r.IntN(len(items))] }

// randomRate returns a rate, often one at an end.
func randomRate(r *rand.Rand) api.Rate {
	some := func() int { return pick(r, 0, 1, 500, r.IntN(20), r.IntN(100), r.IntN(501)) }
	return rate(some(), some())
}

// wider returns a rate that a rate is narrower than.
func wider(r *rand.Rand, a api.Rate) api.Rate {
	return rate(a.Misses+r.IntN(api.MaxRate-a.Misses+1), a.Doubles+r.IntN(api.MaxRate-a.Doubles+1))
}

// randomNumber returns a number from 0 to most, often a small one.
func randomNumber(r *rand.Rand, most int) int {
	return pick(r, 0, 1, most, r.IntN(12), r.IntN(300), r.IntN(most+1), most-r.IntN(300))
}

func randomCount(r *rand.Rand) api.Count {
	return api.Count{Id: 1 + r.IntN(api.MaxId), Day: r.IntN(api.MaxDay + 1), Shepherd: 1 + r.IntN(api.MaxOwner), Number: randomNumber(r, api.MaxBeasts), Worn: pick(r, 0, 0, 1, r.IntN(20), r.IntN(10001))}
}

// honest returns a count that a true number fits by a rate.
func honest(r *rand.Rand, a api.Rate, n int) int {
	low, high := n-n*a.Misses/1000, n+n*a.Doubles/1000
	return pick(r, low, high, low+r.IntN(high-low+1))
}

// passing returns tallies of one passage of n beasts, and rates that explain them.
func passing(r *rand.Rand, n int) ([]api.Rate, []api.Count) {
	var rates []api.Rate
	var counts []api.Count
	for range 1 + r.IntN(5) {
		a := randomRate(r)
		c := randomCount(r)
		c.Worn = r.IntN(10)
		c.Number = max(min(honest(r, a, n), api.MaxBeasts)-r.IntN(c.Worn+1), 0)
		rates, counts = append(rates, a), append(counts, c)
	}
	return rates, counts
}

// randomInterval returns an interval within 0 to most, sometimes none.
func randomInterval(r *rand.Rand, most int) api.Interval {
	if r.IntN(10) == 0 {
		return none()
	}
	low := r.IntN(most + 1)
	return to(low, low+r.IntN(most-low+1))
}

// The days of random re-counts, and their shepherds, are few.
const (
	lastDay   = 6
	shepherds = 3
)

// randomRecounts returns up to size re-counts; rates explain them, but for some if wild.
func randomRecounts(r *rand.Rand, size int, wild bool) []api.Recount {
	var l []api.Recount
	id, known := 0, 0
	for range r.IntN(size + 1) {
		id += 1 + r.IntN(3)
		known += r.IntN(2)
		n := max(randomNumber(r, api.MaxBeasts), 1)
		x := api.Recount{Id: id, Day: r.IntN(lastDay), Known: known, Shepherd: 1 + r.IntN(shepherds), True: n}
		x.Number = honest(r, rate(r.IntN(120), r.IntN(120)), n)
		if wild && r.IntN(12) == 0 {
			x.Number = randomNumber(r, 200000)
		}
		l = append(l, x)
	}
	return l
}
