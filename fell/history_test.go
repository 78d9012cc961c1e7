package fell_test

import (
	"slices"
	"testing"

	"couchant/api"
	"couchant/fell"
)

// numbered returns the amounts of the sample: that of each arc is its index.
func numbered() []int {
	x := make([]int, 53)
	for i := range x {
		x[i] = i
	}
	return x
}

// E10 and E11: whether amounts circulate does not matter.
func TestAmounts(t *testing.T) {
	f, x := sample(t), numbered()
	for place := range 3 {
		for tick := range 3 {
			if n, e := fell.At(f, x, place, tick); n != 3*tick+place || e != api.OK {
				t.Errorf("At(%d, %d): %d, error %d", place, tick, n, e)
			}
		}
	}
	for tick, want := range []int{0 + 1, 3 + 4, 6 + 7} {
		if n, e := fell.Present(f, x, tick); n != want || e != api.OK {
			t.Errorf("Present(%d): %d, error %d, want %d", tick, n, e, want)
		}
	}
	for line, want := range map[string]bool{
		"1 0 stay 7 sheep yard 1 5 5": true, "1 0 stay 7 sheep yard 1 0 4": false, "1 0 stay 7 sheep yard 1 6 9": false, "1 0 stay 7 sheep yard 1 0 5": true, "1 0 stay 7 sheep yard 1 5 1000": true,
		"1 0 pass 9 cow gap 0 24 24": true, "1 0 back 9 cow gap 0 24 24": false, "1 0 back 9 cow gap 0 25 25": true, "1 0 born 9 cow high 0 10 10": true, "1 0 dead 9 cow high 0 11 11": true, "1 0 bought 9 cow high 0 12 12": true, "1 0 sold 9 cow high 0 13 13": true,
		"1 0 sold 9 cow yard 1 42 42": true, "1 0 pass 9 cow lane 1 45 45": true, "1 0 back 9 cow lane 1 46 46": true,
	} {
		if keeps, e := fell.Keeps(f, x, report(t, f, line)); keeps != want || e != api.OK {
			t.Errorf("Keeps of %q: %v, error %d, want %v", line, keeps, e, want)
		}
	}
}

// E10 and E11: lists that are no amounts.
func TestNoAmounts(t *testing.T) {
	f := sample(t)
	good := report(t, f, "1 0 stay 7 sheep high 0 0 1000")
	changed := func(at, n int) []int {
		x := numbered()
		x[at] = n
		return x
	}
	for _, x := range [][]int{changed(0, 1000), changed(52, 0), changed(24, 1000)} {
		_, e := fell.At(f, x, 0, 0)
		_, e2 := fell.Present(f, x, 0)
		_, e3 := fell.Keeps(f, x, good)
		if e != api.OK || e2 != api.OK || e3 != api.OK {
			t.Errorf("At, Present, Keeps of %v: errors %d, %d, %d", x, e, e2, e3)
		}
	}
	for _, x := range [][]int{nil, {}, numbered()[:52], append(numbered(), 0), changed(0, -1), changed(52, 1001), changed(24, 1001), changed(9, 1<<62), changed(9, -1<<63), make([]int, 5000)} {
		n, e := fell.At(f, x, 0, 0)
		m, e2 := fell.Present(f, x, 0)
		keeps, e3 := fell.Keeps(f, x, good)
		if n != 0 || m != 0 || keeps || e != api.ErrArg || e2 != api.ErrArg || e3 != api.ErrArg {
			t.Errorf("At, Present, Keeps of %d amounts: %d, %d, %v, errors %d, %d, %d", len(x), n, m, keeps, e, e2, e3)
		}
		// Amounts and ticks come before places, reports before amounts.
		if _, e := fell.At(f, x, 9, 0); e != api.ErrArg {
			t.Errorf("At of no place: error %d", e)
		}
		bad := good
		bad.At = 3
		if _, e := fell.Keeps(f, x, bad); e != api.ErrPlace {
			t.Errorf("Keeps of a report of no place: error %d", e)
		}
	}
}

// E10 and E11: ticks and places that there are not, and reports that tell of no arc.
func TestNoTicks(t *testing.T) {
	f, x := sample(t), numbered()
	for _, tick := range []int{-1, 3, 24, 1 << 62} {
		weights, e := fell.OnFell(f, tick)
		n, e2 := fell.Present(f, x, tick)
		m, e3 := fell.At(f, x, 0, tick)
		_, e4 := fell.At(f, x, 7, tick)
		if len(weights) > 0 || n != 0 || m != 0 || e != api.ErrArg || e2 != api.ErrArg || e3 != api.ErrArg || e4 != api.ErrArg {
			t.Errorf("OnFell, Present, At of the tick %d: %v, %d, %d, errors %d, %d, %d, %d", tick, weights, n, m, e, e2, e3, e4)
		}
	}
	for _, place := range []int{-1, 3, 8, 1 << 62} {
		if n, e := fell.At(f, x, place, 2); n != 0 || e != api.ErrPlace {
			t.Errorf("At of the place %d: %d, error %d", place, n, e)
		}
	}
	for _, bad := range badReports() {
		if keeps, e := fell.Keeps(f, x, bad.x); keeps || e != bad.e {
			t.Errorf("Keeps of %v: %v, error %d, want %d", bad.x, keeps, e, bad.e)
		}
	}
	if keeps, e := fell.Keeps(f, x, api.Report{Id: 1, Kind: api.ReportVoid, Of: 1}); keeps || e != api.ErrArg {
		t.Errorf("Keeps of a void: %v, error %d", keeps, e)
	}
}

// E10: a fell without heafs, and one without folds.
func TestOnFellByKinds(t *testing.T) {
	for _, c := range []struct {
		kinds []uint8
		want  []int
	}{{[]uint8{2, 2}, nil}, {[]uint8{1, 1}, []int{2, 3}}, {[]uint8{2, 1}, []int{3}}, {[]uint8{1, 2}, []int{2}}} {
		f := api.Fell{Ticks: 1, Places: places(2)}
		for i, kind := range c.kinds {
			f.Places[i].Kind = kind
		}
		weights, e := fell.OnFell(f, 1)
		mustOK(t, "OnFell", e)
		var got []int
		for i, weight := range weights {
			if weight != 0 {
				got = append(got, i)
			}
		}
		if !slices.Equal(got, c.want) || len(weights) != fell.Arcs(f) {
			t.Errorf("OnFell with the kinds %v: %v of %d arcs", c.kinds, got, len(weights))
		}
	}
}
