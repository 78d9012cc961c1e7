package tally_test

import (
	"math"
	"slices"
	"testing"

	"couchant/api"
	"couchant/tally"
)

// D1.
func TestCheckRate(t *testing.T) {
	for r, want := range map[api.Rate]api.Errno{
		{}: api.OK, rate(500, 500): api.OK, rate(0, 500): api.OK, rate(500, 0): api.OK, rate(50, 20): api.OK,
		rate(501, 0): api.ErrArg, rate(0, 501): api.ErrArg, rate(-1, 0): api.ErrArg, rate(0, -1): api.ErrArg, rate(math.MaxInt, 1): api.ErrArg, rate(1, math.MinInt): api.ErrArg,
	} {
		if got := tally.CheckRate(r); got != want {
			t.Errorf("CheckRate(%v): %d, want %d", r, got, want)
		}
	}
}

// D1.
func TestCheckCount(t *testing.T) {
	for _, c := range []api.Count{
		{Id: 1, Shepherd: 1}, {Id: 1000000, Day: 100000, Shepherd: 40, Number: 100000, Worn: 10000}, {Id: 1, Day: 1, Shepherd: 1, Number: 1, Worn: 1}, {Id: 7, Shepherd: 40, Worn: 10000},
	} {
		if got := tally.CheckCount(c); got != api.OK {
			t.Errorf("CheckCount(%v): %d", c, got)
		}
	}
	for _, c := range badCounts() {
		if got := tally.CheckCount(c); got != api.ErrArg {
			t.Errorf("CheckCount(%v): %d", c, got)
		}
	}
}

// badCounts are tallies of which one field is not valid.
func badCounts() []api.Count {
	l := []api.Count{{}}
	for _, do := range []func(c *api.Count, beyond bool){
		func(c *api.Count, beyond bool) { c.Id = outside(1, 1000000, beyond) },
		func(c *api.Count, beyond bool) { c.Day = outside(0, 100000, beyond) },
		func(c *api.Count, beyond bool) { c.Shepherd = outside(1, 40, beyond) },
		func(c *api.Count, beyond bool) { c.Number = outside(0, 100000, beyond) },
		func(c *api.Count, beyond bool) { c.Worn = outside(0, 10000, beyond) },
	} {
		for _, beyond := range []bool{false, true} {
			c := counted(5, 5)
			do(&c, beyond)
			l = append(l, c)
		}
	}
	return l
}

// badRecounts are re-counts of which one field is not valid.
func badRecounts() []api.Recount {
	l := []api.Recount{{}}
	for _, do := range []func(x *api.Recount, beyond bool){
		func(x *api.Recount, beyond bool) { x.Id = outside(1, 1000000, beyond) },
		func(x *api.Recount, beyond bool) { x.Day = outside(0, 100000, beyond) },
		func(x *api.Recount, beyond bool) { x.Known = outside(0, 100000, beyond) },
		func(x *api.Recount, beyond bool) { x.Shepherd = outside(1, 40, beyond) },
		func(x *api.Recount, beyond bool) { x.True = outside(1, 100000, beyond) },
		func(x *api.Recount, beyond bool) { x.Number = outside(0, 200000, beyond) },
	} {
		for _, beyond := range []bool{false, true} {
			x := api.Recount{Id: 1, Shepherd: 1, True: 10, Number: 10}
			do(&x, beyond)
			l = append(l, x)
		}
	}
	return l
}

// outside returns the number just outside low to high, at one end.
func outside(low, high int, beyond bool) int {
	if beyond {
		return high + 1
	}
	return low - 1
}

// many returns re-counts with ascending Ids.
func many(n int) []api.Recount {
	var l []api.Recount
	for i := range n {
		l = append(l, api.Recount{Id: i + 1, Shepherd: 1, True: 1, Number: 1})
	}
	return l
}

// D1: single re-counts.
func TestCheckRecountsOne(t *testing.T) {
	for _, x := range []api.Recount{
		{Id: 1, Shepherd: 1, True: 1}, {Id: 1000000, Day: 100000, Known: 100000, Shepherd: 40, True: 100000, Number: 200000}, {Id: 3, Day: 9, Shepherd: 1, True: 1, Number: 9},
	} {
		if at, e := tally.CheckRecounts([]api.Recount{x}); at != 0 || e != api.OK {
			t.Errorf("CheckRecounts(%v): %d, error %d", x, at, e)
		}
	}
	for _, x := range badRecounts() {
		first := api.Recount{Id: 1, Shepherd: 1, True: 1}
		if at, e := tally.CheckRecounts([]api.Recount{x}); at != 0 || e != api.ErrArg {
			t.Errorf("CheckRecounts(%v): %d, error %d", x, at, e)
		}
		if x.Id == 1 {
			x.Id = 2
		}
		if at, e := tally.CheckRecounts([]api.Recount{first, x}); at != 1 || e != api.ErrArg {
			t.Errorf("CheckRecounts(%v, %v): %d, error %d", first, x, at, e)
		}
	}
}

// D1.
func TestCheckRecounts(t *testing.T) {
	at := func(id, known int) api.Recount {
		return api.Recount{Id: id, Known: known, Day: 9 - known, Shepherd: 1, True: 1, Number: 1}
	}
	bad := func(id, known int) api.Recount {
		x := at(id, known)
		x.True = 0
		return x
	}
	for _, c := range []struct {
		l     []api.Recount
		index int
		e     api.Errno
	}{
		{nil, 0, api.OK},
		{[]api.Recount{at(1, 0), at(2, 0), at(4, 3), at(5, 3), at(100, 9)}, 0, api.OK},
		{[]api.Recount{at(1, 0), at(1, 0)}, 1, api.ErrArg},
		{[]api.Recount{at(1, 0), at(3, 0), at(2, 0)}, 2, api.ErrArg},
		{[]api.Recount{at(1, 0), at(3, 2), at(5, 1)}, 2, api.ErrTime},
		{[]api.Recount{at(1, 0), at(3, 2), at(3, 1)}, 2, api.ErrArg},
		{[]api.Recount{at(1, 0), at(3, 2), bad(4, 1)}, 2, api.ErrArg},
		{[]api.Recount{at(1, 3), at(2, 2), at(2, 1)}, 1, api.ErrTime},
		{[]api.Recount{at(1, 3), bad(2, 3), at(3, 1)}, 1, api.ErrArg},
		{[]api.Recount{bad(1, 3), at(1, 3), at(3, 1)}, 0, api.ErrArg},
		{many(200), 0, api.OK},
		{many(201), 200, api.ErrLimit},
		{many(500), 200, api.ErrLimit},
		{append(many(200), api.Recount{}), 200, api.ErrLimit},
		{append(many(199), api.Recount{}, api.Recount{}), 199, api.ErrArg},
		{append([]api.Recount{at(1, 1)}, many(300)...), 1, api.ErrArg},
		{append(append(many(198), at(199, 1)), at(200, 0), at(201, 0)), 199, api.ErrTime},
	} {
		if index, e := tally.CheckRecounts(c.l); index != c.index || e != c.e {
			t.Errorf("CheckRecounts(%v): %d, error %d, want %d, error %d", c.l, index, e, c.index, c.e)
		}
	}
}

// D10.
func TestNarrower(t *testing.T) {
	for _, c := range []struct {
		a, b api.Rate
		want bool
	}{
		{rate(0, 0), rate(0, 0), true}, {rate(500, 500), rate(500, 500), true}, {rate(10, 20), rate(10, 20), true}, {rate(10, 20), rate(11, 20), true}, {rate(10, 20), rate(10, 21), true},
		{rate(10, 20), rate(9, 20), false}, {rate(10, 20), rate(10, 19), false}, {rate(10, 20), rate(20, 10), false}, {rate(20, 10), rate(10, 20), false}, {rate(0, 0), rate(500, 500), true},
		{rate(-1, 0), rate(1, 0), false}, {rate(0, -1), rate(0, 0), false}, {rate(0, 0), rate(501, 0), false}, {rate(0, 0), rate(0, 501), false}, {rate(501, 0), rate(501, 0), false}, {rate(0, -1), rate(0, -1), false},
	} {
		if got := tally.Narrower(c.a, c.b); got != c.want {
			t.Errorf("Narrower(%v, %v): %v", c.a, c.b, got)
		}
	}
}

// D8.
func TestCounting(t *testing.T) {
	l := sample(t)
	for known, want := range map[int]int{-1: 0, math.MinInt: 0, 0: 2, 1: 2, 2: 3, 3: 4, 4: 5, 5: 6, 6: 7, 7: 7, math.MaxInt: 7} {
		if got := tally.Counting(l, known); !slices.Equal(got, l[:want]) {
			t.Errorf("Counting on the day %d: %v", known, got)
		}
	}
	// Of any list: also one that is no re-counts.
	wild := []api.Recount{{Known: 5}, {Known: -7, True: -1}, {Known: 5}, {Known: 6}, {Known: 4, Id: 9}}
	if got := tally.Counting(wild, 5); !slices.Equal(got, []api.Recount{{Known: 5}, {Known: -7, True: -1}, {Known: 5}, {Known: 4, Id: 9}}) {
		t.Errorf("Counting of what is no re-counts: %v", got)
	}
	if got := tally.Counting(wild, -7); !slices.Equal(got, wild[1:2]) {
		t.Errorf("Counting on the day -7: %v", got)
	}
	if got := tally.Counting(many(300), 0); !slices.Equal(got, many(300)) {
		t.Errorf("Counting of 300 re-counts: %d", len(got))
	}
	if got := tally.Counting(nil, 0); len(got) > 0 {
		t.Errorf("Counting of none: %v", got)
	}
}
