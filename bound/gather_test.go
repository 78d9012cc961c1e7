package bound_test

import (
	"math"
	"reflect"
	"slices"
	"testing"

	"couchant/api"
	"couchant/bound"
)

// G9: the first gathering that is wrong, behind the number of them.
func TestCheckGatherings(t *testing.T) {
	f, broken := sample(t), sample(t)
	broken.Gates[1].A = 2
	good := api.Gathering{Place: low, Tick: 2, Cost: 100000}
	for _, c := range []struct {
		f api.Fell
		g []api.Gathering
		e api.Errno
	}{
		{f, nil, api.OK}, {f, []api.Gathering{good, {}, good}, api.OK}, {f, slices.Repeat([]api.Gathering{good}, 8), api.OK}, {f, slices.Repeat([]api.Gathering{good}, 9), api.ErrLimit}, {f, make([]api.Gathering, 9), api.ErrLimit}, {f, slices.Repeat([]api.Gathering{{Place: 7}}, 9), api.ErrLimit},
		{f, []api.Gathering{{Cost: -1}}, api.ErrArg}, {f, []api.Gathering{{Cost: 100001}}, api.ErrArg}, {f, []api.Gathering{{Tick: -1}}, api.ErrArg}, {f, []api.Gathering{{Tick: 3}}, api.ErrArg}, {f, []api.Gathering{{Place: 3}}, api.ErrPlace}, {f, []api.Gathering{{Place: -1}}, api.ErrPlace},
		{f, []api.Gathering{{Place: 3, Tick: 3}}, api.ErrArg}, {f, []api.Gathering{{Place: 3, Cost: math.MaxInt}}, api.ErrArg}, {f, []api.Gathering{good, {Place: 3}, {Tick: 3}}, api.ErrPlace}, {f, []api.Gathering{good, {Tick: 3}, {Place: 3}}, api.ErrArg},
		{f, []api.Gathering{{Tick: math.MaxInt, Place: math.MinInt}}, api.ErrArg}, {f, []api.Gathering{{Place: math.MaxInt}}, api.ErrPlace}, {broken, nil, api.ErrPlace}, {broken, make([]api.Gathering, 9), api.ErrPlace}, {api.Fell{}, []api.Gathering{{Cost: -1}}, api.ErrNone},
	} {
		if e := bound.CheckGatherings(c.f, c.g); e != c.e {
			t.Errorf("CheckGatherings of %v: error %d, want %d", c.g, e, c.e)
		}
	}
}

// G10: the chapter's example, and others.
func TestOutcomesOfSample(t *testing.T) {
	f, l, g := sample(t), sampleLog(t), sampleGatherings()
	for _, c := range []struct {
		known int
		x     api.Figure
		set   []int
		want  [][]int
	}{
		{2, sheep(-1, 1), []int{0}, [][]int{{3}, {4}}}, {2, sheep(0, 0), []int{0}, [][]int{{3}, {4}}}, {2, sheep(-1, 1), nil, [][]int{{}}}, {2, sheep(-1, 1), []int{}, [][]int{nil}}, {2, sheep(-1, 1), []int{2}, [][]int{{0}, {1}, {2}, {3}, {4}, {5}, {6}, {7}, {8}, {9}, {10}, {11}, {12}}},
		{3, sheep(-1, 1), []int{0, 1}, [][]int{{3, 0}, {3, 1}, {3, 2}, {3, 3}, {3, 4}, {3, 5}, {3, 6}, {3, 7}, {3, 8}, {3, 9}, {3, 10}, {3, 11}, {3, 12}, {4, 0}, {4, 1}, {4, 2}, {4, 3}, {4, 4}, {4, 5}, {4, 6}, {4, 7}, {4, 8}, {4, 9}, {4, 10}, {4, 11}}},
	} {
		if got, e := bound.Outcomes(f, l, c.known, c.x, g, c.set); !slices.EqualFunc(got, c.want, slices.Equal) || e != api.OK {
			t.Errorf("Outcomes of %v on the day %d: %v, error %d, want %v", c.set, c.known, got, e, c.want)
		}
	}
	twice := []api.Gathering{g[0], g[0], {Place: high}, g[0]}
	if got, e := bound.Outcomes(f, l, 2, sheep(-1, 1), twice, []int{0, 2, 3}); !slices.EqualFunc(got, [][]int{{3, 10, 3}, {4, 10, 4}}, slices.Equal) || e != api.OK {
		t.Errorf("Outcomes of the same place twice: %v, error %d", got, e)
	}
}

// G11, G12: the chapter's examples.
func TestDecidesOfSample(t *testing.T) {
	f, l, g, x := sample(t), sampleLog(t), sampleGatherings(), sheep(-1, 1)
	for _, c := range []struct {
		known, limit int
		set          []int
		want         bool
	}{
		{2, 11, []int{0}, true}, {2, 11, []int{2}, false}, {2, 11, []int{1}, false}, {2, 11, nil, false}, {2, 11, []int{1, 2}, true}, {2, 11, []int{0, 1, 2}, true}, {2, 10, nil, true}, {2, 12, nil, true}, {0, 11, nil, false}, {0, 11, []int{0}, true}, {2, math.MinInt, nil, true}, {2, math.MaxInt, []int{1}, true},
	} {
		if is, e := bound.Decides(f, l, c.known, x, c.limit, g, c.set); is != c.want || e != api.OK {
			t.Errorf("Decides of %v for more than %d on the day %d: %t, error %d", c.set, c.limit, c.known, is, e)
		}
		w, is, e := bound.Witness(f, l, c.known, x, c.limit, g, c.set)
		if is == c.want || e != api.OK || !is && !reflect.DeepEqual(w, api.Split{}) {
			t.Errorf("Witness of %v for more than %d on the day %d: %v, %t, error %d", c.set, c.limit, c.known, w, is, e)
		}
		if ok, e := bound.CheckWitness(f, l, c.known, x, c.limit, g, c.set, w); ok != is || e != api.OK {
			t.Errorf("CheckWitness of %v for more than %d on the day %d: %t, error %d", c.set, c.limit, c.known, ok, e)
		}
	}
	for _, c := range []struct {
		known, limit int
		want         api.Errand
	}{{2, 11, api.Errand{Set: []int{0}, Cost: 3}}, {2, 10, api.Errand{}}, {2, 12, api.Errand{}}, {0, 11, api.Errand{Set: []int{0}, Cost: 3}}} {
		if got, e := bound.Cheapest(f, l, c.known, x, c.limit, g); !reflect.DeepEqual(got, c.want) || e != api.OK {
			t.Errorf("Cheapest for more than %d on the day %d: %v, error %d, want %v", c.limit, c.known, got, e, c.want)
		}
	}
	for _, g := range [][]api.Gathering{nil, g[1:2], {{Place: high, Tick: 0}, {Place: yard, Tick: 0}}} {
		if got, e := bound.Cheapest(f, l, 2, x, 11, g); !reflect.DeepEqual(got, api.Errand{}) || e != api.ErrFar {
			t.Errorf("Cheapest of %v: %v, error %d", g, got, e)
		}
	}
}

// G12: the least cost, then the fewest gatherings, then the first set.
func TestCheapestOfEqual(t *testing.T) {
	f, l, x := sample(t), sampleLog(t), sheep(-1, 1)
	at := func(place, cost int) api.Gathering { return api.Gathering{Place: place, Tick: 1, Cost: cost} }
	for _, c := range []struct {
		g    []api.Gathering
		want api.Errand
	}{
		{[]api.Gathering{at(yard, 3), at(low, 1), at(high, 1)}, api.Errand{Set: []int{1, 2}, Cost: 2}}, {[]api.Gathering{at(low, 1), at(high, 1), at(yard, 2)}, api.Errand{Set: []int{2}, Cost: 2}}, {[]api.Gathering{at(yard, 2), at(low, 1), at(high, 1)}, api.Errand{Set: []int{0}, Cost: 2}},
		{[]api.Gathering{at(low, 0), at(yard, 2), at(yard, 2)}, api.Errand{Set: []int{1}, Cost: 2}}, {[]api.Gathering{at(low, 0), at(high, 0), at(low, 0), at(high, 0)}, api.Errand{Set: []int{0, 1}}}, {[]api.Gathering{at(low, 0), at(low, 0), at(high, 0), at(high, 0), at(yard, 0)}, api.Errand{Set: []int{4}}},
		{[]api.Gathering{at(high, 100000), at(low, 100000), at(high, 99999)}, api.Errand{Set: []int{1, 2}, Cost: 199999}}, {[]api.Gathering{at(low, 1), at(high, 2), at(low, 1), at(high, 2)}, api.Errand{Set: []int{0, 1}, Cost: 3}}, {[]api.Gathering{at(low, 2), at(high, 2), at(low, 1), at(high, 1), at(yard, 3)}, api.Errand{Set: []int{2, 3}, Cost: 2}},
	} {
		if got, e := bound.Cheapest(f, l, 2, x, 11, c.g); !reflect.DeepEqual(got, c.want) || e != api.OK {
			t.Errorf("Cheapest of %v: %v, error %d, want %v", c.g, got, e, c.want)
		}
	}
}

// G12: of two sets that both decide, where no gatherings of one can stand for those of the other one, the first one.
func TestCheapestIsFirst(t *testing.T) {
	f := parsed(t, "fell 1 0", "heaf a", "heaf b", "gate g a b 9")
	l := reports(t, f, nil, "1 0 stay 7 sheep a 0 0 4", "2 0 stay 7 sheep b 0 0 4")
	at := func(place, tick int) api.Gathering { return api.Gathering{Place: place, Tick: tick, Cost: 1} }
	for _, g := range [][]api.Gathering{{at(0, 0), at(0, 1), at(1, 1), at(1, 0)}, {at(1, 1), at(1, 0), at(0, 0), at(0, 1)}} {
		if got, e := bound.Cheapest(f, l, 0, sheep(-1, 1), 4, g); !reflect.DeepEqual(got, api.Errand{Set: []int{0, 3}, Cost: 2}) || e != api.OK {
			t.Errorf("Cheapest of %v: %v, error %d", g, got, e)
		}
		if is, e := bound.Decides(f, l, 0, sheep(-1, 1), 4, g, []int{1, 2}); !is || e != api.OK {
			t.Errorf("Decides of %v: %t, error %d", g, is, e)
		}
	}
}

// G10 to G12: behind ErrDoubt comes ErrLimit, before ErrFar; CheckWitness has neither.
func TestTooManyOutcomes(t *testing.T) {
	f := parsed(t, "fell 1 0", "heaf a", "heaf b", "heaf c")
	g := []api.Gathering{{Place: 0}, {Place: 1}, {Place: 2}}
	for _, c := range []struct {
		lines []string
		size  int
		e     api.Errno
	}{
		{[]string{"1 0 stay 7 sheep a 0 0 39", "2 0 stay 7 sheep b 0 1 50", "3 0 stay 7 sheep c 0 7 7"}, 2000, api.OK}, {[]string{"1 0 stay 7 sheep a 0 0 2", "2 0 stay 7 sheep b 0 1 23", "3 0 stay 7 sheep c 0 7 35"}, 2001, api.ErrLimit}, {nil, 1001 * 1001, api.ErrLimit},
		{[]string{"1 0 stay 7 sheep a 0 0 5", "2 0 stay 7 sheep a 1 6 6"}, 0, api.ErrDoubt},
	} {
		l := reports(t, f, nil, c.lines...)
		all, e := bound.Outcomes(f, l, 0, sheep(-1, 1), g, []int{0, 1, 2})
		if e != c.e || e == api.OK && len(all) != c.size || e != api.OK && all != nil {
			t.Errorf("Outcomes by %q: %d, error %d", c.lines, len(all), e)
		}
		for limit, decided := range map[int]bool{20: true, 100000: true} {
			if is, e := bound.Decides(f, l, 0, sheep(-1, 1), limit, g, []int{0, 1, 2}); is != (decided && c.e == api.OK) || e != c.e {
				t.Errorf("Decides by %q: %t, error %d", c.lines, is, e)
			}
		}
		if w, is, e := bound.Witness(f, l, 0, sheep(-1, 1), 20, g, []int{0, 1, 2}); is || e != c.e || !reflect.DeepEqual(w, api.Split{}) {
			t.Errorf("Witness by %q: %v, %t, error %d", c.lines, w, is, e)
		}
		if is, e := bound.CheckWitness(f, l, 0, sheep(-1, 1), 20, g, []int{0, 1, 2}, api.Split{}); is || e != api.OK {
			t.Errorf("CheckWitness by %q: %t, error %d", c.lines, is, e)
		}
		want := api.Errand{Set: []int{0, 1}}
		if c.e != api.OK {
			want = api.Errand{}
		}
		if got, e := bound.Cheapest(f, l, 0, sheep(-1, 1), 20, g); !reflect.DeepEqual(got, want) || e != c.e {
			t.Errorf("Cheapest by %q: %v, error %d", c.lines, got, e)
		}
	}
	// A set of some gatherings may have few enough outcomes, where all of them have too many; what is undecided may lie far back.
	if all, e := bound.Outcomes(f, nil, 0, sheep(-1, 1), g, []int{1}); len(all) != 1001 || all[1000][0] != 1000 || e != api.OK {
		t.Errorf("Outcomes: %d, error %d", len(all), e)
	}
	if is, e := bound.Decides(f, nil, 0, sheep(1, 1), 999, g, []int{1}); !is || e != api.OK {
		t.Errorf("Decides: %t, error %d", is, e)
	}
	if _, is, e := bound.Witness(f, nil, 0, sheep(0, 1), 999, g, []int{1}); !is || e != api.OK {
		t.Errorf("Witness: %t, error %d", is, e)
	}
	if _, is, e := bound.Witness(f, nil, 0, sheep(-1, 1), 2999, g, []int{0}); !is || e != api.OK {
		t.Errorf("Witness of the last outcome: %t, error %d", is, e)
	}
	// The first of too many outcomes is undecided already.
	if w, is, e := bound.Witness(f, nil, 0, sheep(2, 1), 5, g, []int{0, 1}); is || e != api.ErrLimit || !reflect.DeepEqual(w, api.Split{}) {
		t.Errorf("Witness of too many outcomes: %v, %t, error %d", w, is, e)
	}
	if got, e := bound.Cheapest(f, nil, 0, sheep(2, 1), math.MaxInt, g[:2]); e != api.ErrLimit {
		t.Errorf("Cheapest of too many outcomes, where nothing is to be decided: %v, error %d", got, e)
	}
}

// G10 to G12: sets that are none.
func TestSets(t *testing.T) {
	f, l, g, x := sample(t), sampleLog(t), sampleGatherings(), sheep(-1, 1)
	for _, set := range [][]int{{-1}, {3}, {0, 0}, {1, 0}, {0, 1, 2, 3}, {0, 2, 1}, {-1, 0}, {math.MinInt}, {0, math.MaxInt}, {0, 1, 1}, {2, 1, 2}} {
		if all, e := bound.Outcomes(f, l, 2, x, g, set); all != nil || e != api.ErrArg {
			t.Errorf("Outcomes of %v: %v, error %d", set, all, e)
		}
		if is, e := bound.Decides(f, l, 2, x, 10, g, set); is || e != api.ErrArg {
			t.Errorf("Decides of %v: %t, error %d", set, is, e)
		}
		if w, is, e := bound.Witness(f, l, 2, x, 11, g, set); is || e != api.ErrArg || !reflect.DeepEqual(w, api.Split{}) {
			t.Errorf("Witness of %v: %v, %t, error %d", set, w, is, e)
		}
		if is, e := bound.CheckWitness(f, l, 2, x, 11, g, set, api.Split{}); is || e != api.ErrArg {
			t.Errorf("CheckWitness of %v: %t, error %d", set, is, e)
		}
	}
	if _, e := bound.Outcomes(f, l, 2, x, nil, []int{0}); e != api.ErrArg {
		t.Errorf("Outcomes without gatherings: error %d", e)
	}
	if _, e := bound.Outcomes(f, doubtLog(t), 4, x, g, []int{0, 0}); e != api.ErrArg {
		t.Errorf("Outcomes in doubt of no set: error %d", e)
	}
}

// G11: lists that are no histories, that do not have one outcome, or lie on one side.
func TestCheckWitnessOfSample(t *testing.T) {
	f, l, g, x := sample(t), sampleLog(t), sampleGatherings(), sheep(-1, 1)
	good := func() api.Split {
		w, is, e := bound.Witness(f, l, 2, x, 11, g, []int{2})
		mustOK(t, "Witness", e)
		if !is {
			t.Fatal("no witness")
		}
		return w
	}
	for name, spoil := range map[string]func(w *api.Split){
		"the order": func(w *api.Split) { w.One, w.Two = w.Two, w.One }, "one twice": func(w *api.Split) { w.Two = w.One }, "the other one twice": func(w *api.Split) { w.One = w.Two }, "none": func(w *api.Split) { *w = api.Split{} }, "half of it": func(w *api.Split) { w.Two = nil },
		"another amount": func(w *api.Split) { w.One[20]++ }, "another amount in the second one": func(w *api.Split) { w.Two[20]++ }, "an amount below 0": func(w *api.Split) { w.Two[20] = -1 }, "fewer amounts": func(w *api.Split) { w.One = w.One[:52] }, "more amounts": func(w *api.Split) { w.Two = append(w.Two, 0) }, "a great amount": func(w *api.Split) { w.One[0] = math.MaxInt },
	} {
		w := good()
		spoil(&w)
		if is, e := bound.CheckWitness(f, l, 2, x, 11, g, []int{2}, w); is || e != api.OK {
			t.Errorf("CheckWitness with %s: %t, error %d", name, is, e)
		}
	}
	for _, c := range []struct {
		known, limit int
		x            api.Figure
		set          []int
		want         bool
	}{{2, 11, x, []int{2}, true}, {2, 11, x, nil, true}, {2, 10, x, []int{2}, false}, {2, 12, x, []int{2}, false}, {2, 11, x, []int{0}, false}, {2, 11, x, []int{0, 2}, false}, {0, 11, x, []int{2}, true}, {2, 11, sheep(high, 1), []int{2}, false}, {2, 11, api.Figure{Owner: 8, Sort: "sheep", Place: -1, Tick: 1}, []int{2}, true}} {
		if is, e := bound.CheckWitness(f, l, c.known, c.x, c.limit, g, c.set, good()); is != c.want || e != api.OK {
			t.Errorf("CheckWitness of %v, more than %d, on the day %d: %t, error %d", c.set, c.limit, c.known, is, e)
		}
	}
	doubt := doubtLog(t)
	if is, e := bound.CheckWitness(f, doubt, 4, x, 11, g, []int{2}, good()); is || e != api.OK {
		t.Errorf("CheckWitness in doubt: %t, error %d", is, e)
	}
}

// G10 to G12: against all histories of small fells.
func TestGatheringsOfAll(t *testing.T) {
	r := random(8)
	count, decided := map[string]int{}, map[bool]int{}
	for range 1200 {
		c, all := smallScene(t, r)
		if len(all) == 0 {
			continue
		}
		x, g := c.figure(r), c.gatherings(r, 5)
		its := values(t, c.f, x, all)
		limit := pick(r, its...) - r.IntN(2)
		if slices.Max(its) == slices.Min(its) && r.IntN(4) > 0 {
			continue
		}
		set := pick(r, sets(len(g))...)
		outcomes, e := bound.Outcomes(c.f, c.l, c.known, x, g, set)
		if want := outcomesOf(t, c.f, g, set, all); !slices.EqualFunc(outcomes, want, slices.Equal) || e != api.OK {
			t.Fatalf("%+v: Outcomes of %v of %v: %v, error %d, want %v", c, set, g, outcomes, e, want)
		}
		want := isDecided(t, c.f, x, limit, g, set, all)
		decided[want]++
		if is, e := bound.Decides(c.f, c.l, c.known, x, limit, g, set); is != want || e != api.OK {
			t.Fatalf("%+v: Decides of %v of %v, %v more than %d: %t, error %d", c, set, g, x, limit, is, e)
		}
		w, is, e := bound.Witness(c.f, c.l, c.known, x, limit, g, set)
		if is == want || e != api.OK || is && !isWitness(t, c, x, limit, g, set, w) || !is && !reflect.DeepEqual(w, api.Split{}) {
			t.Fatalf("%+v: Witness of %v of %v, %v more than %d: %v, %t, error %d", c, set, g, x, limit, w, is, e)
		}
		w = api.Split{One: pick(r, all...), Two: pick(r, all...)}
		if is, e := bound.CheckWitness(c.f, c.l, c.known, x, limit, g, set, w); is != isWitness(t, c, x, limit, g, set, w) || e != api.OK {
			t.Fatalf("%+v: CheckWitness of %v of %v, %v more than %d: %v: %t, error %d", c, set, g, x, limit, w, is, e)
		}
		best, e := bound.Cheapest(c.f, c.l, c.known, x, limit, g)
		cheapest, err := cheapestOf(t, c.f, x, limit, g, all)
		if !slices.Equal(best.Set, cheapest.Set) || best.Cost != cheapest.Cost || e != err {
			t.Fatalf("%+v: Cheapest of %v, %v more than %d: %v, error %d, want %v, error %d", c, g, x, limit, best, e, cheapest, err)
		}
		switch {
		case e == api.ErrFar:
			count["far"]++
		default:
			count[[]string{"nothing", "one", "more", "more", "more", "more"}[len(best.Set)]]++
		}
	}
	if count["far"] < 60 || count["nothing"] < 60 || count["one"] < 60 || count["more"] < 5 || decided[true] < 100 || decided[false] < 100 {
		t.Errorf("Cheapest found %v, sets decided or not %v", count, decided)
	}
}

// isWitness tells whether two histories have one outcome, and the figure is greater than the limit in the first one alone.
func isWitness(t *testing.T, c scene, x api.Figure, limit int, g []api.Gathering, set []int, w api.Split) bool {
	t.Helper()
	net := c.net(t)
	return kept(net, w.One) && kept(net, w.Two) && slices.Equal(found(t, c.f, g, set, w.One), found(t, c.f, g, set, w.Two)) && value(t, c.f, x, w.One) > limit && value(t, c.f, x, w.Two) <= limit
}
