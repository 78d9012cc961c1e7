package bound_test

import (
	"fmt"
	"math/rand/v2"
	"slices"
	"testing"

	"couchant/api"
	"couchant/bound"
	"couchant/fell"
)

// shapeOf returns one of fells of some size, the smallest ones too.
func shapeOf(r *rand.Rand) shape {
	return pick(r, shape{2, 3, 3, 3, 9}, shape{4, 0, 4, 4, 50}, shape{6, 50, 3, 3, 9}, shape{10, 5, 8, 12, 100}, shape{3, 1000, 8, 12, 1000})
}

// trueScene returns a scene whose reports are kept by its history.
func trueScene(t testing.TB, r *rand.Rand, size int) scene {
	t.Helper()
	for {
		if c := randomScene(t, r, shapeOf(r), size, pick(r, 3, 20, 200)); !c.faulty {
			return c
		}
	}
}

// P7.2 (T6): values lie between the ends, which histories attain; bounds are accepted; each number between the ends of one place is attained.
func TestSharp(t *testing.T) {
	r := random(21)
	apart, between := 0, 0
	for range 500 {
		c := trueScene(t, r, 60)
		x, g := c.figure(r), c.net(t)
		b, e := bound.Bounds(c.f, c.l, c.known, x)
		mustOK(t, "Bounds", e)
		low, high := ends(t, c.f, c.l, c.known, x)
		if n := value(t, c.f, x, c.history); !kept(g, c.history) || n < low || n > high || b.Low != low || b.High != high {
			t.Fatalf("%+v, %v: %d is not from %d to %d, Bounds %v", c, x, n, low, high, b)
		}
		if !kept(g, b.Least) || !kept(g, b.Greatest) || value(t, c.f, x, b.Least) != low || value(t, c.f, x, b.Greatest) != high {
			t.Fatalf("%+v, %v: Bounds %v", c, x, b)
		}
		if is, e := bound.CheckBounds(c.f, c.l, c.known, x, b); !is || e != api.OK {
			t.Fatalf("%+v, %v: CheckBounds of %v: %t, error %d", c, x, b, is, e)
		}
		if low < high {
			apart++
		}
		if x.Place < 0 {
			continue
		}
		for _, n := range []int{low - 1, low, low + r.IntN(high-low+1), high, high + 1} {
			history, is, e := bound.Through(c.f, c.l, c.known, x, n)
			if is != (low <= n && n <= high) || e != api.OK || is && (!kept(g, history) || value(t, c.f, x, history) != n) {
				t.Fatalf("%+v, %v: Through with %d: %v, %t, error %d, the ends are %d, %d", c, x, n, history, is, e, low, high)
			}
			between++
		}
	}
	if apart < 200 || between < 1000 {
		t.Errorf("%d times the ends were not the same, %d numbers at one place", apart, between)
	}
}

// P7.2: what CheckBounds accepts are the ends, whoever found them.
func TestAcceptedBoundsAreEnds(t *testing.T) {
	r := random(22)
	count := map[bool]int{}
	for range 1500 {
		c := trueScene(t, r, 30)
		x := c.figure(r)
		b, e := bound.Bounds(c.f, c.l, c.known, x)
		mustOK(t, "Bounds", e)
		if r.IntN(3) == 0 {
			b.Least, b.Low = c.history, value(t, c.f, x, c.history)
		}
		if r.IntN(3) == 0 {
			b.Greatest, b.High = c.history, value(t, c.f, x, c.history)
		}
		if node := r.IntN(len(b.Upper)); r.IntN(3) == 0 {
			b.Upper[node], b.Lower[node] = b.Upper[node]+pick(r, 0, 1, -1), b.Lower[node]+pick(r, 0, 1, -1)
		}
		b.Low, b.High = b.Low+pick(r, 0, 0, 0, 0, 1, -1), b.High+pick(r, 0, 0, 0, 0, 1, -1)
		is, e := bound.CheckBounds(c.f, c.l, c.known, x, b)
		mustOK(t, "CheckBounds", e)
		low, high := ends(t, c.f, c.l, c.known, x)
		if is && (low != b.Low || high != b.High) {
			t.Fatalf("%+v, %v: %v is accepted, the ends are %d, %d", c, x, b, low, high)
		}
		count[is]++
	}
	if count[true] < 200 || count[false] < 200 {
		t.Errorf("bounds accepted, and not: %v", count)
	}
}

// P7.3 (T6): a lineage holds its end, not without any of its reports, and whatever others come or are withdrawn.
func TestLineageHolds(t *testing.T) {
	r := random(23)
	long, held := 0, 0
	for range 600 {
		c := trueScene(t, r, 40)
		x, upper := c.figure(r), r.IntN(2) == 0
		ids, e := bound.Lineage(c.f, c.l, c.known, x, upper)
		mustOK(t, "Lineage", e)
		low, high := ends(t, c.f, c.l, c.known, x)
		end := map[bool]int{false: low, true: high}[upper]
		if is, e := bound.CheckLineage(c.f, c.l, c.known, x, upper, end, ids); !is || e != api.OK {
			t.Fatalf("%+v, %v: CheckLineage of %d, upper %t, by %v: %t, error %d", c, x, end, upper, ids, is, e)
		}
		for i := range ids {
			fewer := slices.Delete(slices.Clone(ids), i, i+1)
			if is, e := bound.CheckLineage(c.f, c.l, c.known, x, upper, end, fewer); is || e != api.OK {
				t.Fatalf("%+v, %v: CheckLineage of %d, upper %t, by %v of %v: %t, error %d", c, x, end, upper, fewer, ids, is, e)
			}
			long++
		}
		// Of the other reports most are withdrawn, and some more come.
		l := slices.Clone(c.l)
		later := max(c.known, 1)
		if len(l) > 0 {
			later = max(later, l[len(l)-1].Known)
		}
		add := func(y api.Report) {
			y.Id, y.Known = 6000+len(l), later
			if longer, e := fell.Append(c.f, l, y); e == api.OK {
				l = longer
			}
		}
		for _, y := range c.l {
			if y.Kind != api.ReportVoid && !slices.Contains(ids, y.Id) && r.IntN(4) > 0 {
				add(api.Report{Kind: api.ReportVoid, Of: y.Id})
			}
		}
		for range 5 {
			add(randomReport(t, r, c.f, 7, "sheep", c.history, 20))
		}
		// Voids of the lineage itself that were still to come count on that day too.
		counting, e := fell.Counting(c.f, l, later)
		mustOK(t, "Counting", e)
		if slices.ContainsFunc(ids, func(id int) bool {
			return !slices.ContainsFunc(counting, func(y api.Report) bool { return y.Id == id })
		}) {
			continue
		}
		low, high, e = bound.Ends(c.f, l, later, x)
		mustOK(t, "Ends", e)
		if upper && high > end || !upper && low < end {
			t.Fatalf("%+v, %v: the end %d, upper %t, rests on %v, and later the ends are %d, %d by %v", c, x, end, upper, ids, low, high, l)
		}
		held++
	}
	if long < 200 || held < 300 {
		t.Errorf("%d reports of lineages, %d lineages that held", long, held)
	}
}

// P7.4 (T6): the reports agree, or Doubt finds some that do not, without any one of which the others agree.
func TestAgreeOrDoubt(t *testing.T) {
	r := random(24)
	count := map[bool]int{}
	for range 600 {
		c := randomScene(t, r, shapeOf(r), 40, pick(r, 3, 20, 200))
		if r.IntN(3) == 0 {
			c.err(t, r)
		}
		ids, is, e := bound.Doubt(c.f, c.l, c.known, 7, "sheep")
		mustOK(t, "Doubt", e)
		_, _, agree := bound.Ends(c.f, c.l, c.known, sheep(0, 0))
		if is != (agree == api.ErrDoubt) || !c.faulty && is {
			t.Fatalf("%+v: Doubt %v, %t, Ends error %d", c, ids, is, agree)
		}
		count[is]++
		if !is {
			continue
		}
		if is, e := bound.CheckDoubt(c.f, c.l, c.known, 7, "sheep", ids); !is || e != api.OK {
			t.Fatalf("%+v: CheckDoubt of %v: %t, error %d", c, ids, is, e)
		}
		for i := range ids {
			fewer := slices.Delete(slices.Clone(ids), i, i+1)
			if is, e := bound.CheckDoubt(c.f, c.l, c.known, 7, "sheep", fewer); is || e != api.OK {
				t.Fatalf("%+v: CheckDoubt of %v of %v: %t, error %d", c, fewer, ids, is, e)
			}
		}
	}
	if count[true] < 100 || count[false] < 200 {
		t.Errorf("doubts, and none: %v", count)
	}
}

// P7.5 (T6): a report more only narrows, others change nothing, and Reached has the ticks at which something changes.
func TestMoreReports(t *testing.T) {
	r := random(25)
	narrower, still := 0, 0
	for range 600 {
		c := trueScene(t, r, 30)
		c.known = 1 + len(c.l)
		x := randomReport(t, r, c.f, pick(r, 7, 7, 7, 3), pick(r, "sheep", "sheep", "sheep", "cow"), c.history, pick(r, 0, 0, 3))
		x.Id, x.Known = 7000, c.known
		l, e := fell.Append(c.f, c.l, x)
		mustOK(t, "Append", e)
		before, after := table(t, c.f, c.l, c.known, 7, "sheep"), table(t, c.f, l, c.known, 7, "sheep")
		own := x.Owner == 7 && x.Sort == "sheep"
		var changed []int
		for tick, b := range before {
			a := after[tick]
			if a.A < b.A || a.B > b.B || a != b && !own {
				t.Fatalf("%+v: by %v from %v to %v", c, x, before, after)
			}
			if a != b {
				changed = append(changed, tick)
			}
		}
		for place := range c.f.Places {
			tick := r.IntN(c.f.Ticks + 1)
			low, high := ends(t, c.f, c.l, c.known, sheep(place, tick))
			least, most := ends(t, c.f, l, c.known, sheep(place, tick))
			if least < low || most > high || !own && (least != low || most != high) {
				t.Fatalf("%+v: by %v the ends %d, %d of %d at %d become %d, %d", c, x, low, high, place, tick, least, most)
			}
		}
		ticks, e := bound.Reached(c.f, c.l, c.known, x)
		if own && (!slices.Equal(ticks, changed) || e != api.OK) {
			t.Fatalf("%+v: Reached of %v: %v, error %d, want %v", c, x, ticks, e, changed)
		}
		if len(changed) > 0 {
			narrower++
		} else {
			still++
		}
	}
	if narrower < 60 || still < 100 {
		t.Errorf("%d reports narrowed, %d did not", narrower, still)
	}
}

// P7.6 (T7): a set decides, or there is a witness; the cheapest one decides, no cheaper one does, and each larger one does.
func TestDecided(t *testing.T) {
	r := random(26)
	count := map[api.Errno]int{}
	sizes := map[int]int{}
	for range 250 {
		c := randomScene(t, r, pick(r, shape{2, 1, 2, 2, 4}, shape{3, 0, 4, 4, 6}, shape{6, 0, 3, 4, 6}), 20, 3)
		x, g := sheep(-1, r.IntN(c.f.Ticks+1)), c.gatherings(r, 5)
		low, high, e := bound.Ends(c.f, c.l, c.known, x)
		if e == api.ErrDoubt {
			continue
		}
		mustOK(t, "Ends", e)
		if low == high && r.IntN(4) > 0 {
			continue
		}
		limit := low + r.IntN(max(1, high-low))
		decides := map[string]bool{}
		all := sets(len(g))
		best, e := bound.Cheapest(c.f, c.l, c.known, x, limit, g)
		count[e]++
		if e == api.ErrLimit {
			continue
		}
		sizes[len(best.Set)]++
		for _, set := range all {
			is, err := bound.Decides(c.f, c.l, c.known, x, limit, g, set)
			mustOK(t, "Decides", err)
			w, not, err := bound.Witness(c.f, c.l, c.known, x, limit, g, set)
			mustOK(t, "Witness", err)
			ok, err := bound.CheckWitness(c.f, c.l, c.known, x, limit, g, set, w)
			mustOK(t, "CheckWitness", err)
			if is == not || ok != not || not && !isWitness(t, c, x, limit, g, set, w) {
				t.Fatalf("%+v: Decides of %v of %v: %t, Witness %v, %t, CheckWitness %t", c, set, g, is, w, not, ok)
			}
			decides[fmt.Sprint(set)] = is
			cost := 0
			for _, i := range set {
				cost += g[i].Cost
			}
			if is && (e != api.OK || cost < best.Cost) || e == api.OK && slices.Equal(set, best.Set) && (!is || cost != best.Cost) {
				t.Fatalf("%+v: Cheapest of %v: %v, error %d; %v decides: %t", c, g, best, e, set, is)
			}
		}
		for _, set := range all {
			for i := range g {
				if larger := append(slices.Clone(set), i); !slices.Contains(set, i) && decides[fmt.Sprint(set)] {
					slices.Sort(larger)
					if !decides[fmt.Sprint(larger)] {
						t.Fatalf("%+v: %v of %v decides, and %v does not", c, set, g, larger)
					}
				}
			}
		}
	}
	if count[api.OK] < 60 || count[api.ErrFar] < 30 || sizes[1] < 15 {
		t.Errorf("Cheapest: errors %v, sizes %v", count, sizes)
	}
}

// P7.7: the ends on the fell by those at its heafs, and as figures.
func TestSums(t *testing.T) {
	r := random(27)
	sharper := 0
	for range 300 {
		c := trueScene(t, r, 40)
		pairs := table(t, c.f, c.l, c.known, 7, "sheep")
		for tick := range c.f.Ticks + 1 {
			least, most := 0, 0
			for place, p := range c.f.Places {
				if p.Kind == api.PlaceHeaf {
					low, high := ends(t, c.f, c.l, c.known, sheep(place, tick))
					least, most = least+low, most+high
				}
			}
			low, high := ends(t, c.f, c.l, c.known, sheep(-1, tick))
			if low < least || high > most || pairs[tick] != (api.Pair{A: low, B: high}) || len(pairs) != c.f.Ticks+1 {
				t.Fatalf("%+v: Ends %d, %d at %d, at the heafs together %d, %d, Table %v", c, low, high, tick, least, most, pairs)
			}
			if low > least || high < most {
				sharper++
			}
		}
	}
	if sharper < 100 {
		t.Errorf("%d ends on the fell are sharper than those of the heafs", sharper)
	}
}

// P7.8: the order of the reports changes no end.
func TestOrderOfReports(t *testing.T) {
	r := random(28)
	other := 0
	for range 400 {
		c := trueScene(t, r, 40)
		l := c.counting(t)
		for i := range l {
			l[i].Known = 3
		}
		mixed := slices.Clone(l)
		r.Shuffle(len(mixed), func(i, j int) { mixed[i], mixed[j] = mixed[j], mixed[i] })
		if !slices.Equal(table(t, c.f, l, 3, 7, "sheep"), table(t, c.f, mixed, 3, 7, "sheep")) {
			t.Fatalf("%+v: Table of %v and of %v", c, l, mixed)
		}
		for range 5 {
			x := c.figure(r)
			low, high := ends(t, c.f, l, 3, x)
			if least, most := ends(t, c.f, mixed, 3, x); least != low || most != high {
				t.Fatalf("%+v: Ends of %v: %d, %d by %v, %d, %d by %v", c, x, low, high, l, least, most, mixed)
			}
		}
		if !slices.Equal(l, mixed) {
			other++
		}
	}
	if other < 250 {
		t.Errorf("only %d logs came in another order", other)
	}
}

// The largest fells and logs.
func TestLargest(t *testing.T) {
	r := random(29)
	f := api.Fell{Ticks: 24, Yield: 3}
	for i := range 8 {
		f.Places = append(f.Places, api.Place{Name: fmt.Sprintf("p%d", i), Kind: pick(r, api.PlaceHeaf, api.PlaceHeaf, api.PlaceFold)})
	}
	for i := range 12 {
		f.Gates = append(f.Gates, api.Gate{Name: fmt.Sprintf("g%d", i), A: i % 8, B: (i + 1 + i/8*3) % 8, Most: 50})
	}
	history := randomHistory(t, r, f, 500)
	var l []api.Report
	for i := range 299 {
		x := randomReport(t, r, f, 7, "sheep", history, pick(r, 0, 20))
		x.Id, x.Known = i+1, i
		l = append(l, x)
	}
	x := sheep(-1, 24)
	b, e := bound.Bounds(f, l, 1000, x)
	mustOK(t, "Bounds", e)
	if is, e := bound.CheckBounds(f, l, 1000, x, b); !is || e != api.OK || b.Low >= b.High {
		t.Errorf("CheckBounds of %d, %d: %t, error %d", b.Low, b.High, is, e)
	}
	if pairs := table(t, f, l, 1000, 7, "sheep"); len(pairs) != 25 || pairs[24] != (api.Pair{A: b.Low, B: b.High}) {
		t.Errorf("Table: %v", pairs)
	}
	for _, upper := range []bool{false, true} {
		ids, e := bound.Lineage(f, l, 1000, x, upper)
		mustOK(t, "Lineage", e)
		end := map[bool]int{false: b.Low, true: b.High}[upper]
		if is, e := bound.CheckLineage(f, l, 1000, x, upper, end, ids); !is || e != api.OK || len(ids) == 0 {
			t.Errorf("CheckLineage of %d by %v: %t, error %d", end, ids, is, e)
		}
	}
	var g []api.Gathering
	for i := range 8 {
		low, high := ends(t, f, l, 1000, sheep(i, 24))
		g = append(g, api.Gathering{Place: i, Tick: 24, Cost: 1 + high - low})
	}
	if _, e := bound.Cheapest(f, l, 1000, x, b.Low, g); e != api.ErrLimit {
		t.Errorf("Cheapest of all places: error %d", e)
	}
	wrong := l[150]
	wrong.Id, wrong.Known, wrong.Low = 300, 300, wrong.High+1
	wrong.High = wrong.Low
	l = append(l, wrong)
	ids, is, e := bound.Doubt(f, l, 1000, 7, "sheep")
	if !is || e != api.OK || !slices.Contains(ids, 300) {
		t.Errorf("Doubt: %v, %t, error %d", ids, is, e)
	}
	if is, e := bound.CheckDoubt(f, l, 1000, 7, "sheep", ids); !is || e != api.OK {
		t.Errorf("CheckDoubt of %v: %t, error %d", ids, is, e)
	}
}
