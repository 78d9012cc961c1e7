package tally_test

import (
	"testing"

	"couchant/api"
	"couchant/tally"
)

// D2.
func TestFits(t *testing.T) {
	r := rate(50, 20)
	for _, c := range []struct {
		r    api.Rate
		n, c int
		want bool
		e    api.Errno
	}{
		{r, 200, 190, true, api.OK}, {r, 201, 190, false, api.OK}, {r, 187, 190, true, api.OK}, {r, 186, 190, false, api.OK},
		{r, 0, 0, true, api.OK}, {r, 0, 1, false, api.OK}, {r, 1, 0, false, api.OK}, {r, 19, 18, false, api.OK}, {r, 20, 19, true, api.OK},
		{r, 100000, 102000, true, api.OK}, {r, 100000, 102001, false, api.OK}, {r, 100000, 95000, true, api.OK}, {r, 100000, 94999, false, api.OK},
		{rate(500, 500), 100000, 150000, true, api.OK}, {rate(500, 500), 100000, 50000, true, api.OK}, {rate(500, 500), 3, 2, true, api.OK}, {rate(500, 500), 3, 5, false, api.OK},
		{rate(0, 0), 100000, 200000, false, api.OK}, {rate(0, 0), 5, 5, true, api.OK}, {rate(0, 0), 5, 4, false, api.OK}, {rate(0, 0), 5, 6, false, api.OK},
		{r, -1, 0, false, api.ErrArg}, {r, 100001, 100001, false, api.ErrArg}, {r, 0, -1, false, api.ErrArg}, {r, 1, 200001, false, api.ErrArg},
		{rate(501, 0), 1, 1, false, api.ErrArg}, {rate(0, -1), 1, 1, false, api.ErrArg},
	} {
		if got, e := tally.Fits(c.r, c.n, c.c); got != c.want || e != c.e {
			t.Errorf("Fits(%v, %d, %d): %v, error %d", c.r, c.n, c.c, got, e)
		}
	}
}

// D2.
func TestShown(t *testing.T) {
	r := rate(50, 20)
	for _, c := range []struct {
		r            api.Rate
		n, low, high int
		e            api.Errno
	}{
		{r, 200, 190, 204, api.OK}, {r, 0, 0, 0, api.OK}, {r, 1, 1, 1, api.OK}, {r, 19, 19, 19, api.OK}, {r, 20, 19, 20, api.OK}, {r, 49, 47, 49, api.OK}, {r, 50, 48, 51, api.OK},
		{rate(500, 500), 100000, 50000, 150000, api.OK}, {rate(500, 500), 1, 1, 1, api.OK}, {rate(499, 499), 3, 2, 4, api.OK}, {rate(1, 1), 999, 999, 999, api.OK}, {rate(1, 1), 1000, 999, 1001, api.OK},
		{r, -1, 0, 0, api.ErrArg}, {r, 100001, 0, 0, api.ErrArg}, {rate(-1, 0), 5, 0, 0, api.ErrArg}, {rate(0, 501), 5, 0, 0, api.ErrArg},
	} {
		if low, high, e := tally.Shown(c.r, c.n); low != c.low || high != c.high || e != c.e {
			t.Errorf("Shown(%v, %d): %d, %d, error %d", c.r, c.n, low, high, e)
		}
	}
}

// D3.
func TestTrue(t *testing.T) {
	for _, c := range []struct {
		r    api.Rate
		c    int
		want api.Interval
		e    api.Errno
	}{
		{rate(50, 20), 190, to(187, 200), api.OK}, {rate(0, 500), 1, to(1, 1), api.OK}, {rate(500, 0), 0, to(0, 0), api.OK}, {rate(0, 0), 150000, none(), api.OK},
		{rate(100, 0), 90, to(90, 100), api.OK}, {rate(500, 0), 1, to(1, 2), api.OK}, {rate(500, 500), 50000, to(33334, 100000), api.OK}, {rate(500, 500), 150000, to(100000, 100000), api.OK},
		{rate(500, 500), 150001, none(), api.OK}, {rate(500, 499), 150000, none(), api.OK}, {rate(0, 0), 0, to(0, 0), api.OK}, {rate(0, 0), 100000, to(100000, 100000), api.OK}, {rate(0, 0), 100001, none(), api.OK},
		{rate(500, 500), 200000, none(), api.OK}, {rate(0, 10), 101000, to(100000, 100000), api.OK}, {rate(0, 10), 100999, to(100000, 100000), api.OK}, {rate(0, 10), 100998, to(99999, 100000), api.OK}, {rate(500, 0), 99999, to(99999, 100000), api.OK},
		{rate(0, 0), -1, none(), api.ErrArg}, {rate(0, 0), 200001, none(), api.ErrArg}, {rate(-1, 0), 5, none(), api.ErrArg}, {rate(0, 501), 5, none(), api.ErrArg},
	} {
		if got, e := tally.True(c.r, c.c); got != c.want || e != c.e {
			t.Errorf("True(%v, %d): %v, error %d, want %v", c.r, c.c, got, e, c.want)
		}
	}
}

// D4.
func TestOfCount(t *testing.T) {
	for _, c := range []struct {
		r        api.Rate
		c        api.Count
		want     api.Interval
		gathered int
	}{
		{rate(50, 20), counted(190, 10), to(187, 210), 187}, {rate(50, 20), counted(190, 0), to(187, 200), 187}, {rate(0, 0), counted(5, 3), to(5, 8), 5}, {rate(0, 0), counted(0, 0), to(0, 0), 0},
		{rate(0, 0), counted(100000, 10000), to(100000, 100000), 100000}, {rate(500, 500), counted(100000, 10000), to(66667, 100000), 66667}, {rate(500, 500), counted(0, 0), to(0, 0), 0}, {rate(500, 500), counted(0, 1), to(0, 2), 0},
		{rate(500, 0), counted(0, 10000), to(0, 20000), 0}, {rate(0, 500), counted(0, 10000), to(0, 10000), 0}, {rate(0, 500), counted(3, 1), to(2, 4), 2},
	} {
		if got, e := tally.OfCount(c.r, c.c); got != c.want || e != api.OK {
			t.Errorf("OfCount(%v, %v): %v, error %d, want %v", c.r, c.c, got, e, c.want)
		}
		if got, e := tally.Gathered(c.r, c.c); got != c.gathered || e != api.OK {
			t.Errorf("Gathered(%v, %v): %d, error %d, want %d", c.r, c.c, got, e, c.gathered)
		}
	}
	refused := func(r api.Rate, c api.Count) {
		if got, e := tally.OfCount(r, c); got != none() || e != api.ErrArg {
			t.Errorf("OfCount(%v, %v): %v, error %d", r, c, got, e)
		}
		if got, e := tally.Gathered(r, c); got != 0 || e != api.ErrArg {
			t.Errorf("Gathered(%v, %v): %d, error %d", r, c, got, e)
		}
	}
	for _, c := range badCounts() {
		refused(rate(50, 20), c)
	}
	refused(rate(501, 0), counted(5, 5))
	refused(rate(0, -1), counted(5, 5))
}
