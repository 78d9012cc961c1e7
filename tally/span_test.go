package tally_test

import (
	"math"
	"slices"
	"testing"

	"couchant/api"
	"couchant/tally"
)

// badIntervals are neither numbers nor the zero interval.
func badIntervals() []api.Interval {
	return []api.Interval{
		to(1, 0), to(-1, 0), to(-2, -1), to(0, 100000001), to(100000001, 100000001), to(100000000, 99999999), to(math.MinInt, math.MaxInt), to(math.MaxInt, math.MinInt), to(5, math.MaxInt),
		{Low: 1, High: 2}, {Low: 1}, {High: 1}, {Low: 1, High: 1}, {Low: -1, High: -1}, {Low: 2, High: 1},
	}
}

// D5.
func TestBothAndLess(t *testing.T) {
	for _, c := range []struct{ a, b, both, less api.Interval }{
		{to(5, 9), to(8, 12), to(8, 9), to(0, 1)}, {to(8, 12), to(5, 9), to(8, 9), to(0, 7)}, {to(5, 9), to(9, 12), to(9, 9), to(0, 0)}, {to(5, 9), to(10, 12), none(), none()}, {to(10, 12), to(5, 9), none(), to(1, 7)},
		{to(1, 20), to(5, 6), to(5, 6), to(0, 15)}, {to(5, 6), to(1, 20), to(5, 6), to(0, 5)}, {to(0, 0), to(0, 0), to(0, 0), to(0, 0)}, {to(0, 0), none(), none(), none()}, {none(), to(0, 0), none(), none()}, {none(), none(), none(), none()},
		{to(0, 100000000), to(100000000, 100000000), to(100000000, 100000000), to(0, 0)}, {to(100000000, 100000000), to(0, 0), none(), to(100000000, 100000000)}, {to(7, 7), to(7, 7), to(7, 7), to(0, 0)}, {to(10, 12), to(3, 4), none(), to(6, 9)},
	} {
		if got := tally.Both(c.a, c.b); got != c.both {
			t.Errorf("Both(%v, %v): %v, want %v", c.a, c.b, got, c.both)
		}
		if got := tally.Less(c.a, c.b); got != c.less {
			t.Errorf("Less(%v, %v): %v, want %v", c.a, c.b, got, c.less)
		}
	}
	for _, bad := range badIntervals() {
		for _, good := range []api.Interval{to(0, 100000000), to(0, 1), none(), bad} {
			for _, got := range []api.Interval{tally.Both(bad, good), tally.Both(good, bad), tally.Less(bad, good), tally.Less(good, bad)} {
				if got != none() {
					t.Errorf("Both or Less of %v and %v: %v", bad, good, got)
				}
			}
		}
	}
}

// D5.
func TestSum(t *testing.T) {
	const most = 100000000
	some := func(n int, x api.Interval) []api.Interval { return slices.Repeat([]api.Interval{x}, n) }
	for _, c := range []struct {
		l    []api.Interval
		want api.Interval
		e    api.Errno
	}{
		{nil, to(0, 0), api.OK},
		{some(1, to(1, 2)), to(1, 2), api.OK},
		{some(1, none()), none(), api.OK},
		{[]api.Interval{to(1, 2), to(10, 20)}, to(11, 22), api.OK},
		{[]api.Interval{to(1, 2), none(), to(10, 20)}, none(), api.OK},
		{[]api.Interval{to(0, most), to(0, 0)}, to(0, most), api.OK},
		{[]api.Interval{to(0, most), to(0, 1)}, none(), api.ErrLimit},
		{[]api.Interval{to(0, 1), to(0, most)}, none(), api.ErrLimit},
		{[]api.Interval{to(0, most), to(0, 1), none()}, none(), api.OK},
		{[]api.Interval{none(), to(0, most), to(0, 1)}, none(), api.OK},
		{[]api.Interval{to(0, most), to(0, 1), to(1, 0)}, none(), api.ErrArg},
		{[]api.Interval{none(), {High: 1}}, none(), api.ErrArg},
		{some(200, to(1, 500000)), to(200, most), api.OK},
		{some(200, to(0, 500001)), none(), api.ErrLimit},
		{some(200, to(most, most)), none(), api.ErrLimit},
		{some(201, to(0, 0)), none(), api.ErrLimit},
		{some(201, none()), none(), api.ErrLimit},
		{append([]api.Interval{to(1, 0)}, some(200, none())...), none(), api.ErrLimit},
		{append([]api.Interval{to(1, 0)}, some(199, none())...), none(), api.ErrArg},
		{some(200, none()), none(), api.OK},
	} {
		if got, e := tally.Sum(c.l); got != c.want || e != c.e {
			t.Errorf("Sum(%v): %v, error %d, want %v, error %d", c.l, got, e, c.want, c.e)
		}
	}
	for _, bad := range badIntervals() {
		for _, l := range [][]api.Interval{{bad}, {to(1, 2), bad}, {bad, none()}, {bad, bad}} {
			if got, e := tally.Sum(l); got != none() || e != api.ErrArg {
				t.Errorf("Sum(%v): %v, error %d", l, got, e)
			}
		}
	}
}

// D6.
func TestPassage(t *testing.T) {
	r, exact := rate(50, 20), rate(0, 0)
	for _, c := range []struct {
		rates  []api.Rate
		counts []api.Count
		want   api.Interval
		apart  []int
	}{
		{[]api.Rate{r}, []api.Count{counted(190, 10)}, to(187, 210), nil},
		{[]api.Rate{r, exact}, []api.Count{counted(190, 10), counted(210, 0)}, to(210, 210), nil},
		{[]api.Rate{r, exact}, []api.Count{counted(190, 10), counted(211, 0)}, none(), []int{0, 1}},
		{[]api.Rate{exact, r}, []api.Count{counted(186, 0), counted(190, 10)}, none(), []int{0, 1}},
		{[]api.Rate{exact, r}, []api.Count{counted(190, 10), counted(186, 1)}, to(190, 196), nil},
		{[]api.Rate{exact, exact, exact}, []api.Count{counted(5, 5), counted(10, 5), counted(16, 0)}, none(), []int{0, 2}},
		{[]api.Rate{exact, exact, exact}, []api.Count{counted(5, 10), counted(10, 5), counted(16, 0)}, none(), []int{0, 2}},
		{[]api.Rate{exact, exact, exact, exact}, []api.Count{counted(5, 20), counted(10, 5), counted(16, 0), counted(16, 1)}, none(), []int{1, 2}},
		{[]api.Rate{exact, exact, exact, exact}, []api.Count{counted(5, 20), counted(10, 5), counted(15, 0), counted(16, 1)}, none(), []int{1, 3}},
		{[]api.Rate{exact, exact, exact, exact}, []api.Count{counted(5, 20), counted(10, 9), counted(15, 0), counted(16, 1)}, none(), []int{2, 3}},
		{[]api.Rate{exact, exact, exact, exact}, []api.Count{counted(9, 0), counted(5, 1), counted(7, 0), counted(8, 0)}, none(), []int{0, 1}},
		{[]api.Rate{exact, exact}, []api.Count{counted(100000, 10000), counted(99999, 1)}, to(100000, 100000), nil},
		{slices.Repeat([]api.Rate{exact}, 200), slices.Repeat([]api.Count{counted(5, 5)}, 200), to(5, 10), nil},
		{slices.Repeat([]api.Rate{exact}, 200), append(slices.Repeat([]api.Count{counted(5, 5)}, 199), counted(11, 0)), none(), []int{0, 199}},
	} {
		if got, apart, e := tally.Passage(c.rates, c.counts); got != c.want || !slices.Equal(apart, c.apart) || e != api.OK {
			t.Errorf("Passage(%v, %v): %v, %v, error %d, want %v, %v", c.rates, c.counts, got, apart, e, c.want, c.apart)
		}
	}
}

// D6.
func TestPassageRefuses(t *testing.T) {
	exact := rate(0, 0)
	some := func(n int) []api.Rate { return slices.Repeat([]api.Rate{exact}, n) }
	same := func(n int, c api.Count) []api.Count { return slices.Repeat([]api.Count{c}, n) }
	good, bad := counted(5, 5), counted(5, -1)
	for _, c := range []struct {
		rates  []api.Rate
		counts []api.Count
		e      api.Errno
	}{
		{nil, nil, api.ErrArg},
		{some(1), nil, api.ErrArg},
		{nil, same(1, good), api.ErrArg},
		{some(1), same(2, good), api.ErrArg},
		{some(2), same(1, good), api.ErrArg},
		{some(201), same(200, good), api.ErrArg},
		{some(201), same(201, good), api.ErrLimit},
		{some(200), same(201, good), api.ErrLimit},
		{nil, same(201, bad), api.ErrLimit},
		{some(1), same(1, bad), api.ErrArg},
		{append(some(2), rate(501, 0)), same(3, good), api.ErrArg},
		{append([]api.Rate{rate(0, 501)}, some(2)...), []api.Count{good, counted(11, 0), good}, api.ErrArg},
		{some(3), []api.Count{good, counted(11, 0), bad}, api.ErrArg},
	} {
		if got, apart, e := tally.Passage(c.rates, c.counts); got != none() || len(apart) > 0 || e != c.e {
			t.Errorf("Passage(%v, %v): %v, %v, error %d, want error %d", c.rates, c.counts, got, apart, e, c.e)
		}
	}
	for _, c := range badCounts() {
		if got, apart, e := tally.Passage(some(1), same(1, c)); got != none() || len(apart) > 0 || e != api.ErrArg {
			t.Errorf("Passage of %v: %v, %v, error %d", c, got, apart, e)
		}
	}
}
