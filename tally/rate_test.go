package tally_test

import (
	"math"
	"slices"
	"testing"

	"couchant/api"
	"couchant/tally"
)

// D7.
func TestMissesAndDoubles(t *testing.T) {
	const no = -1
	for _, c := range []struct{ n, c, misses, doubles int }{
		{200, 190, 50, 0}, {200, 205, 0, 25}, {10, 4, no, 0}, {10, 5, 500, 0}, {10, 15, 0, 500}, {10, 16, 0, no}, {10, 10, 0, 0},
		{1, 1, 0, 0}, {1, 0, no, 0}, {1, 2, 0, no}, {2, 1, 500, 0}, {2, 3, 0, 500}, {3, 2, 334, 0}, {3, 4, 0, 334}, {7, 6, 143, 0}, {7, 8, 0, 143},
		{100000, 50000, 500, 0}, {100000, 49999, no, 0}, {100000, 150000, 0, 500}, {100000, 150001, 0, no}, {100000, 99999, 1, 0}, {100000, 99900, 1, 0}, {100000, 99899, 2, 0}, {100000, 100001, 0, 1}, {100000, 100100, 0, 1}, {100000, 100101, 0, 2},
		{100000, 0, no, 0}, {100000, 200000, 0, no}, {1, 200000, 0, no}, {1000, 999, 1, 0}, {999, 998, 2, 0},
		{0, 0, no, no}, {0, 5, no, no}, {-1, 5, no, no}, {100001, 100001, no, no}, {5, -1, no, no}, {100000, 200001, no, no}, {5, 200001, no, no}, {math.MinInt, math.MaxInt, no, no}, {math.MaxInt, 5, no, no}, {5, math.MinInt, no, no},
	} {
		misses, some := tally.Misses(c.n, c.c)
		if some != (c.misses != no) || misses != max(c.misses, 0) {
			t.Errorf("Misses(%d, %d): %d, %v, want %d", c.n, c.c, misses, some, c.misses)
		}
		doubles, some := tally.Doubles(c.n, c.c)
		if some != (c.doubles != no) || doubles != max(c.doubles, 0) {
			t.Errorf("Doubles(%d, %d): %d, %v, want %d", c.n, c.c, doubles, some, c.doubles)
		}
	}
}

// D8 and D9, on each day of knowledge.
func TestRateOf(t *testing.T) {
	l := sample(t)
	house := rate(10, 10)
	for _, c := range []struct {
		house           api.Rate
		shepherd, known int
		want            api.Rate
		why             []int
		e               api.Errno
	}{
		{house, 1, -1, house, nil, api.OK},
		{house, 1, 0, rate(50, 30), []int{1, 2}, api.OK},
		{house, 1, 3, rate(50, 30), []int{1, 2}, api.OK},
		{house, 1, 4, rate(80, 30), []int{2, 7}, api.OK},
		{house, 1, math.MaxInt, rate(80, 30), []int{2, 7}, api.OK},
		{rate(50, 10), 1, 0, rate(50, 30), []int{2}, api.OK},
		{rate(49, 30), 1, 0, rate(50, 30), []int{1}, api.OK},
		{rate(50, 30), 1, 0, rate(50, 30), nil, api.OK},
		{rate(500, 500), 1, 9, rate(500, 500), nil, api.OK},
		{rate(0, 0), 1, 0, rate(50, 30), []int{1, 2}, api.OK},
		{house, 2, 2, house, nil, api.OK},
		{rate(0, 0), 2, 4, rate(0, 0), nil, api.OK},
		{house, 2, 5, api.Rate{}, nil, api.ErrContrary},
		{rate(500, 500), 2, 5, api.Rate{}, nil, api.ErrContrary},
		{house, 3, 9, house, nil, api.OK},
		{house, 0, 9, house, nil, api.OK},
		{house, -1, 9, house, nil, api.OK},
		{house, math.MaxInt, math.MaxInt, house, nil, api.OK},
		{house, 1, math.MinInt, house, nil, api.OK},
		{rate(501, 0), 2, 5, api.Rate{}, nil, api.ErrArg},
		{rate(0, -1), 1, 0, api.Rate{}, nil, api.ErrArg},
	} {
		if got, e := tally.RateOf(c.house, l, c.shepherd, c.known); got != c.want || e != c.e {
			t.Errorf("RateOf(%v, %d, %d): %v, error %d, want %v, error %d", c.house, c.shepherd, c.known, got, e, c.want, c.e)
		}
		if got, e := tally.Why(c.house, l, c.shepherd, c.known); !slices.Equal(got, c.why) || e != c.e {
			t.Errorf("Why(%v, %d, %d): %v, error %d, want %v, error %d", c.house, c.shepherd, c.known, got, e, c.why, c.e)
		}
	}
}

// D8: each of the two numbers may be what no rate explains, in whatever place.
func TestNoRateExplains(t *testing.T) {
	for _, lines := range [][]string{
		{"1 0 0 1 10 4"}, {"1 0 0 1 10 16"}, {"1 0 0 1 10 10", "2 0 0 1 10 16"}, {"1 0 0 1 10 4", "2 0 0 1 10 10"}, {"1 0 0 1 10 9", "2 0 0 1 10 4", "3 0 0 1 10 9"}, {"1 0 0 1 1 0"}, {"1 0 0 1 100000 200000"},
	} {
		l := recounts(t, lines...)
		if got, e := tally.RateOf(rate(500, 500), l, 1, 0); got != rate(0, 0) || e != api.ErrContrary {
			t.Errorf("RateOf of %q: %v, error %d", lines, got, e)
		}
		if got, e := tally.Why(rate(0, 0), l, 1, 0); len(got) > 0 || e != api.ErrContrary {
			t.Errorf("Why of %q: %v, error %d", lines, got, e)
		}
		if got, e := tally.Wrong(rate(500, 500), l, 1, 0); len(got) == 0 || e != api.OK {
			t.Errorf("Wrong of %q: %v, error %d", lines, got, e)
		}
	}
}

// D9.
func TestWhyNamesTheLeast(t *testing.T) {
	l := recounts(t, "2 0 0 1 100 103", "3 0 0 2 100 80", "4 0 0 1 100 95", "6 0 0 1 1000 1030", "7 0 0 1 1000 950", "9 0 0 1 100 97", "10 1 0 1 100 90")
	for known, want := range map[int][]int{0: {2, 4}, 1: {2, 10}, -1: nil} {
		if got, e := tally.Why(rate(0, 0), l, 1, known); !slices.Equal(got, want) || e != api.OK {
			t.Errorf("Why on the day %d: %v, error %d, want %v", known, got, e, want)
		}
	}
	// The rate of the house is no re-count's.
	if got, e := tally.Why(rate(50, 29), l, 1, 0); !slices.Equal(got, []int{2}) || e != api.OK {
		t.Errorf("Why: %v, error %d", got, e)
	}
}

// D9.
func TestWrong(t *testing.T) {
	l := sample(t)
	for _, c := range []struct {
		r               api.Rate
		shepherd, known int
		want            []int
		e               api.Errno
	}{
		{rate(50, 30), 1, 9, []int{7}, api.OK}, {rate(50, 30), 1, 3, nil, api.OK}, {rate(49, 30), 1, 9, []int{1, 5, 7}, api.OK}, {rate(50, 29), 1, 9, []int{2, 7, 9}, api.OK}, {rate(0, 0), 1, 9, []int{1, 2, 5, 7, 9}, api.OK},
		{rate(0, 0), 1, 0, []int{1, 2}, api.OK}, {rate(0, 0), 1, -1, nil, api.OK}, {rate(0, 0), 2, 9, []int{8}, api.OK}, {rate(500, 500), 2, 9, []int{8}, api.OK}, {rate(500, 500), 1, 9, nil, api.OK}, {rate(0, 0), 3, 9, nil, api.OK}, {rate(0, 0), -5, 9, nil, api.OK},
		{rate(501, 0), 1, 9, nil, api.ErrArg}, {rate(0, -1), 1, 9, nil, api.ErrArg},
	} {
		if got, e := tally.Wrong(c.r, l, c.shepherd, c.known); !slices.Equal(got, c.want) || e != c.e {
			t.Errorf("Wrong(%v, %d, %d): %v, error %d, want %v, error %d", c.r, c.shepherd, c.known, got, e, c.want, c.e)
		}
	}
}

// D8 and D9: a rate that is not valid comes before re-counts that are not, and these before re-counts that no rate explains.
func TestErrorsOfRates(t *testing.T) {
	contrary := api.Recount{Id: 1, Known: 5, Shepherd: 1, True: 10}
	late := api.Recount{Id: 2, Known: 4, Shepherd: 2, True: 10}
	for _, c := range []struct {
		r api.Rate
		l []api.Recount
		e api.Errno
	}{
		{rate(0, 0), []api.Recount{contrary, late}, api.ErrTime},
		{rate(0, 0), []api.Recount{contrary, {Id: 2}}, api.ErrArg},
		{rate(0, 0), append([]api.Recount{contrary}, many(201)[1:]...), api.ErrTime},
		{rate(0, 0), many(201), api.ErrLimit},
		{rate(501, 0), []api.Recount{contrary, late}, api.ErrArg},
		{rate(501, 0), many(201), api.ErrArg},
		{rate(0, 501), []api.Recount{contrary}, api.ErrArg},
	} {
		// Whoever the shepherd is, and whatever counts.
		for _, shepherd := range []int{1, 2, 30} {
			for _, known := range []int{-1, 5} {
				if got, e := tally.RateOf(c.r, c.l, shepherd, known); got != rate(0, 0) || e != c.e {
					t.Errorf("RateOf(%v, %v): %v, error %d, want error %d", c.r, c.l, got, e, c.e)
				}
				if got, e := tally.Why(c.r, c.l, shepherd, known); len(got) > 0 || e != c.e {
					t.Errorf("Why(%v, %v): %v, error %d, want error %d", c.r, c.l, got, e, c.e)
				}
				if got, e := tally.Wrong(c.r, c.l, shepherd, known); len(got) > 0 || e != c.e {
					t.Errorf("Wrong(%v, %v): %v, error %d, want error %d", c.r, c.l, got, e, c.e)
				}
			}
		}
	}
}
