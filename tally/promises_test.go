package tally_test

import (
	"slices"
	"testing"

	"couchant/api"
	"couchant/tally"
)

// P4.1 and P4.2, for counts: against all true numbers that there are.
func TestTrueIsWhatFits(t *testing.T) {
	r := random(61)
	empty, one := 0, 0
	for range 400 {
		a := randomRate(r)
		c := pick(r, randomNumber(r, 200000), honest(r, a, randomNumber(r, api.MaxBeasts)))
		got, e := tally.True(a, c)
		mustOK(t, "True", e)
		want := holding(func(n int) bool { return fitsCount(a, n, c) })
		if !sameNumbers(got, want) {
			t.Fatalf("True(%v, %d): %v", a, c, got)
		}
		switch len(want) {
		case 0:
			empty++
		case 1:
			one++
		}
	}
	if empty < 20 || one < 20 || empty+one > 350 {
		t.Errorf("%d counts allow none, %d one", empty, one)
	}
}

// P4.1 and P4.2, for tallies.
func TestOfCountIsWhatFits(t *testing.T) {
	r := random(62)
	for range 100 {
		a, c := randomRate(r), randomCount(r)
		c.Worn = r.IntN(40)
		got, e := tally.OfCount(a, c)
		mustOK(t, "OfCount", e)
		if want := holding(func(n int) bool { return fitsTally(a, n, c) }); !sameNumbers(got, want) {
			t.Fatalf("OfCount(%v, %v): %v", a, c, got)
		}
		gathered, e := tally.Gathered(a, c)
		mustOK(t, "Gathered", e)
		if want := holding(func(n int) bool { return fitsCount(a, n, c.Number) }); gathered != want[0] {
			t.Fatalf("Gathered(%v, %v): %d, want %d", a, c, gathered, want[0])
		}
	}
	// With many worn beasts, the ends and what is beyond them.
	for range 100 {
		a, c := randomRate(r), randomCount(r)
		got, e := tally.OfCount(a, c)
		mustOK(t, "OfCount", e)
		for _, n := range []int{got.Low - 1, got.Low, got.High, got.High + 1, got.Low + r.IntN(got.High-got.Low+1)} {
			if in := n >= got.Low && n <= got.High; n >= 0 && n <= api.MaxBeasts && fitsTally(a, n, c) != in {
				t.Fatalf("OfCount(%v, %v): %v, of %d", a, c, got, n)
			}
		}
	}
}

// P4.2: Fits, Shown and True agree.
func TestFitsShownAndTrue(t *testing.T) {
	r := random(63)
	fitting, other := 0, 0
	for range 20000 {
		a, n := randomRate(r), randomNumber(r, api.MaxBeasts)
		c := min(max(honest(r, a, n)+pick(r, 0, 0, 1, -1), 0), 200000)
		fits, e := tally.Fits(a, n, c)
		mustOK(t, "Fits", e)
		low, high, e := tally.Shown(a, n)
		mustOK(t, "Shown", e)
		allowed, e := tally.True(a, c)
		mustOK(t, "True", e)
		if want := fitsCount(a, n, c); fits != want || want != (c >= low && c <= high) || want != (allowed.Some && n >= allowed.Low && n <= allowed.High) {
			t.Fatalf("%v, %d counted where %d are: Fits %v, Shown %d to %d, True %v", a, c, n, fits, low, high, allowed)
		}
		if fits {
			fitting++
		} else {
			other++
		}
	}
	if fitting < 5000 || other < 2000 {
		t.Errorf("%d fit, %d do not", fitting, other)
	}
}

// within tells whether an interval is part of another one.
func within(a, b api.Interval) bool {
	return !a.Some || b.Some && b.Low <= a.Low && a.High <= b.High
}

// P4.3.
func TestNarrowing(t *testing.T) {
	r := random(64)
	more, worn := 0, 0
	for range 5000 {
		a, c := randomRate(r), randomCount(r)
		b := wider(r, a)
		if !tally.Narrower(a, b) || tally.Narrower(b, a) != (a == b) {
			t.Fatalf("Narrower of %v and %v", a, b)
		}
		narrow, e := tally.OfCount(a, c)
		mustOK(t, "OfCount", e)
		wide, e := tally.OfCount(b, c)
		mustOK(t, "OfCount", e)
		if !within(narrow, wide) {
			t.Fatalf("OfCount of %v: %v by %v, %v by %v", c, narrow, a, wide, b)
		}
		if narrow != wide {
			more++
		}
		c.Worn += r.IntN(10001 - c.Worn)
		if wide, e = tally.OfCount(a, c); e != api.OK || !within(narrow, wide) {
			t.Fatalf("OfCount by %v: %v, with %d worn %v, error %d", a, narrow, c.Worn, wide, e)
		}
		if narrow != wide {
			worn++
		}
		single := randomNumber(r, 200000)
		narrow, e = tally.True(a, single)
		mustOK(t, "True", e)
		if wide, e = tally.True(b, single); e != api.OK || !within(narrow, wide) {
			t.Fatalf("True of %d: %v by %v, %v by %v, error %d", single, narrow, a, wide, b, e)
		}
	}
	if more < 1000 || worn < 1000 {
		t.Errorf("a rate mattered %d times, and worn beasts %d times", more, worn)
	}
}

// P4.4: honest tallies.
func TestPassageHasTheTrueNumber(t *testing.T) {
	r := random(65)
	sharper := 0
	for range 5000 {
		n := randomNumber(r, api.MaxBeasts)
		rates, counts := passing(r, n)
		got, apart, e := tally.Passage(rates, counts)
		if e != api.OK || len(apart) > 0 || !got.Some || n < got.Low || n > got.High {
			t.Fatalf("Passage(%v, %v): %v, %v, error %d, where %d were", rates, counts, got, apart, e, n)
		}
		if first, e := tally.OfCount(rates[0], counts[0]); e != api.OK || first != got {
			sharper++
		}
	}
	if sharper < 1000 {
		t.Errorf("only %d times several tallies said more than the first one", sharper)
	}
}

// P4.1 and P4.4: what all have in common, or the first two tallies that have nothing in common.
func TestPassageIsWhatAllHave(t *testing.T) {
	r := random(66)
	common, contrary := 0, 0
	for range 300 {
		n := 100 + r.IntN(400)
		rates, counts := passing(r, n)
		if r.IntN(2) == 0 {
			more, others := passing(r, n+5+r.IntN(50))
			rates, counts = append(rates, more...), append(counts, others...)
		}
		// All that fits is below 2000.
		fitting := make([][]bool, len(counts))
		for i, c := range counts {
			for m := range 2000 {
				fitting[i] = append(fitting[i], fitsTally(rates[i], m, c))
			}
		}
		var all []int
		for m := range 2000 {
			if !slices.ContainsFunc(fitting, func(of []bool) bool { return !of[m] }) {
				all = append(all, m)
			}
		}
		got, apart, e := tally.Passage(rates, counts)
		mustOK(t, "Passage", e)
		if !sameNumbers(got, all) || !slices.Equal(apart, firstApart(fitting)) || got.Some != (len(apart) == 0) {
			t.Fatalf("Passage(%v, %v): %v, %v, want %v, %v", rates, counts, got, apart, all, firstApart(fitting))
		}
		if got.Some {
			common++
		} else {
			contrary++
		}
	}
	if common < 80 || contrary < 40 {
		t.Errorf("%d passages have a number, %d have none", common, contrary)
	}
}

// firstApart returns the first two lists without a number that is true in both.
func firstApart(fitting [][]bool) []int {
	for i, a := range fitting {
		for j := i; j < len(fitting); j++ {
			some := false
			for n := range a {
				some = some || a[n] && fitting[j][n]
			}
			if !some {
				return []int{i, j}
			}
		}
	}
	return nil
}

// P4.1 and P4.5.
func TestSumsAndDifferences(t *testing.T) {
	r := random(67)
	for range 3000 {
		a, b := randomInterval(r, 20), randomInterval(r, 20)
		if got := tally.Both(a, b); !sameNumbers(got, slices.DeleteFunc(numbers(a), func(n int) bool { return !slices.Contains(numbers(b), n) })) {
			t.Fatalf("Both(%v, %v): %v", a, b, got)
		}
		if got := tally.Less(a, b); !sameNumbers(got, differences(a, b)) {
			t.Fatalf("Less(%v, %v): %v", a, b, got)
		}
		var l []api.Interval
		for range r.IntN(5) {
			l = append(l, randomInterval(r, 8))
		}
		if got, e := tally.Sum(l); e != api.OK || !sameNumbers(got, sums(l)) {
			t.Fatalf("Sum(%v): %v, error %d", l, got, e)
		}
	}
}

// P4.5, for great numbers.
func TestGreatSums(t *testing.T) {
	r := random(68)
	const most = 100000000
	tooGreat, fine := 0, 0
	for range 3000 {
		var l []api.Interval
		low, high := 0, 0
		for range 1 + r.IntN(6) {
			x := randomInterval(r, pick(r, 1000, most/4, most))
			l = append(l, x)
			low, high = low+x.Low, high+x.High
		}
		got, e := tally.Sum(l)
		switch {
		case slices.Contains(l, none()):
			if got != none() || e != api.OK {
				t.Fatalf("Sum(%v): %v, error %d", l, got, e)
			}
		case high > most:
			tooGreat++
			if got != none() || e != api.ErrLimit {
				t.Fatalf("Sum(%v): %v, error %d", l, got, e)
			}
		default:
			fine++
			if got != to(low, high) || e != api.OK {
				t.Fatalf("Sum(%v): %v, error %d", l, got, e)
			}
		}
		a, b := randomInterval(r, most), randomInterval(r, most)
		if !a.Some || !b.Some {
			continue
		}
		n, m := a.Low+r.IntN(a.High-a.Low+1), b.Low+r.IntN(b.High-b.Low+1)
		if x := tally.Less(a, b); n >= m && (!x.Some || n-m < x.Low || n-m > x.High) {
			t.Fatalf("Less(%v, %v): %v, without %d less %d", a, b, x, n, m)
		}
	}
	if tooGreat < 300 || fine < 300 {
		t.Errorf("%d sums were too great, %d were not", tooGreat, fine)
	}
}

// P4.1, for what a re-count asks.
func TestAsksAtRandom(t *testing.T) {
	r := random(69)
	for range 5000 {
		n := max(randomNumber(r, api.MaxBeasts), 1)
		c := pick(r, randomNumber(r, 200000), honest(r, randomRate(r), n), honest(r, rate(500, 500), n))
		misses, some := tally.Misses(n, c)
		if want := missesOf(n, c); some != (want >= 0) || misses != max(want, 0) {
			t.Fatalf("Misses(%d, %d): %d, %v, want %d", n, c, misses, some, want)
		}
		doubles, some := tally.Doubles(n, c)
		if want := doublesOf(n, c); some != (want >= 0) || doubles != max(want, 0) {
			t.Fatalf("Doubles(%d, %d): %d, %v, want %d", n, c, doubles, some, want)
		}
		if misses > 0 && doubles > 0 {
			t.Fatalf("the re-count of %d where %d are asks %d misses and %d doubles", c, n, misses, doubles)
		}
	}
}

// P4.1 and P4.6, against rates that rise until all fits.
func TestRateOfIsTheLeast(t *testing.T) {
	r := random(70)
	raised, contrary := 0, 0
	for range 3000 {
		l := randomRecounts(r, 14, true)
		house := pick(r, rate(0, 0), rate(r.IntN(60), r.IntN(60)), randomRate(r))
		shepherd, known := r.IntN(shepherds+2), r.IntN(9)-1
		these := countingOf(l, shepherd, known)
		want, some := rateOf(house, these)
		got, e := tally.RateOf(house, l, shepherd, known)
		ids, alsoE := tally.Why(house, l, shepherd, known)
		if !some {
			contrary++
			if got != rate(0, 0) || e != api.ErrContrary || len(ids) > 0 || alsoE != api.ErrContrary {
				t.Fatalf("RateOf(%v, %v, %d, %d): %v, error %d, Why %v, error %d", house, l, shepherd, known, got, e, ids, alsoE)
			}
			continue
		}
		if got != want || e != api.OK || alsoE != api.OK || !slices.Equal(ids, why(house, want, these)) {
			t.Fatalf("RateOf(%v, %v, %d, %d): %v, error %d, want %v; Why %v, error %d", house, l, shepherd, known, got, e, want, ids, alsoE)
		}
		if got != house {
			raised++
		}
	}
	if raised < 500 || contrary < 100 {
		t.Errorf("rates were raised %d times, and %d times none explains", raised, contrary)
	}
}

// P4.6, in its own words.
func TestRatesExplain(t *testing.T) {
	r := random(71)
	later := 0
	for range 3000 {
		l := randomRecounts(r, 10, false)
		house := rate(r.IntN(60), r.IntN(60))
		shepherd, known := 1+r.IntN(shepherds), r.IntN(8)
		got, e := tally.RateOf(house, l, shepherd, known)
		mustOK(t, "RateOf", e)
		if wrong, e := tally.Wrong(got, l, shepherd, known); len(wrong) > 0 || e != api.OK {
			t.Fatalf("by the rate %v of %v, %v are wrong, error %d", got, l, wrong, e)
		}
		for _, less := range []api.Rate{rate(got.Misses-1, 500), rate(500, got.Doubles-1)} {
			if less.Misses < house.Misses || less.Doubles < house.Doubles {
				continue
			}
			if wrong, e := tally.Wrong(less, l, shepherd, known); len(wrong) == 0 || e != api.OK {
				t.Fatalf("by the rate %v of %v, none is wrong, error %d, as by %v", less, l, e, got)
			}
		}
		ids, e := tally.Why(house, l, shepherd, known)
		mustOK(t, "Why", e)
		few := slices.DeleteFunc(slices.Clone(l), func(x api.Recount) bool { return !slices.Contains(ids, x.Id) })
		if again, e := tally.RateOf(house, few, shepherd, known); again != got || e != api.OK || len(few) != len(ids) || len(few) > 2 {
			t.Fatalf("%v of %v alone give the rate %v, error %d, not %v", few, l, again, e, got)
		}
		after, e := tally.RateOf(house, l, shepherd, known+1)
		if e != api.OK || !tally.Narrower(got, after) {
			t.Fatalf("the rate of %v falls from %v to %v, error %d", l, got, after, e)
		}
		if after != got {
			later++
		}
	}
	if later < 100 {
		t.Errorf("later re-counts mattered only %d times", later)
	}
}

// P4.1, for Wrong and Counting.
func TestWrongAtRandom(t *testing.T) {
	r := random(72)
	wrong := 0
	for range 3000 {
		l := randomRecounts(r, 10, true)
		a, shepherd, known := rate(r.IntN(100), r.IntN(100)), r.IntN(shepherds+2), r.IntN(9)-1
		var want []int
		for _, x := range countingOf(l, shepherd, known) {
			if !fitsCount(a, x.True, x.Number) {
				want = append(want, x.Id)
			}
		}
		if got, e := tally.Wrong(a, l, shepherd, known); !slices.Equal(got, want) || e != api.OK {
			t.Fatalf("Wrong(%v, %v, %d, %d): %v, error %d, want %v", a, l, shepherd, known, got, e, want)
		}
		if len(want) > 0 {
			wrong++
		}
		counting := slices.DeleteFunc(slices.Clone(l), func(x api.Recount) bool { return x.Known > known })
		if got := tally.Counting(l, known); !slices.Equal(got, counting) {
			t.Fatalf("Counting(%v, %d): %v", l, known, got)
		}
	}
	if wrong < 300 {
		t.Errorf("only %d times some were wrong", wrong)
	}
}
