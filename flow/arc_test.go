package flow_test

import (
	"math"
	"slices"
	"testing"

	"couchant/api"
	"couchant/flow"
)

// F9 to F11: the chapter's examples.
func TestArcsOfSample(t *testing.T) {
	g := sample()
	for arc, want := range []api.Pair{{A: 2, B: 5}, {A: 0, B: 4}, {A: 0, B: 4}, {A: 0, B: 3}} {
		if low, high, e := flow.Range(g, arc); low != want.A || high != want.B || e != api.OK {
			t.Errorf("Range of %d: %d, %d, error %d", arc, low, high, e)
		}
	}
	x, is, e := flow.Through(g, 3, 3)
	if !is || e != api.OK || !kept(g, x) || x[3] != 3 {
		t.Errorf("Through: %v, %t, error %d", x, is, e)
	}
	if l, e := flow.Fixed(g); len(l) != 0 || e != api.OK {
		t.Errorf("Fixed: %v, error %d", l, e)
	}
	g = narrow(t, narrow(t, g, 0, 2, 2, 0), 3, 0, 0, 0)
	if l, e := flow.Fixed(g); !slices.Equal(l, []int{0, 1, 2, 3}) || e != api.OK {
		t.Errorf("Fixed of the narrowed net: %v, error %d", l, e)
	}
}

// F9, F11: without a circulation.
func TestArcsOfCut(t *testing.T) {
	g := cutSample(t)
	for arc := range 4 {
		if low, high, e := flow.Range(g, arc); low != 0 || high != 0 || e != api.ErrCut {
			t.Errorf("Range of %d: %d, %d, error %d", arc, low, high, e)
		}
	}
	if l, e := flow.Fixed(g); l != nil || e != api.ErrCut {
		t.Errorf("Fixed: %v, error %d", l, e)
	}
	for _, amount := range []int{math.MinInt, -1, 0, 1, 2, 3, 1000001, math.MaxInt} {
		if x, is, e := flow.Through(g, 0, amount); x != nil || is || e != api.OK {
			t.Errorf("Through with %d: %v, %t, error %d", amount, x, is, e)
		}
		if x, is, e := flow.Through(sample(), 0, amount); is != (amount == 2 || amount == 3) || (x != nil) != is || e != api.OK {
			t.Errorf("Through with %d: %v, %t, error %d", amount, x, is, e)
		}
	}
	for _, arc := range []int{math.MinInt, -1, 4, math.MaxInt} {
		if _, _, e := flow.Range(sample(), arc); e != api.ErrArg {
			t.Errorf("Range of %d: error %d", arc, e)
		}
		if _, is, e := flow.Through(sample(), arc, 0); is || e != api.ErrArg {
			t.Errorf("Through of %d: %t, error %d", arc, is, e)
		}
	}
}

// F9, F11: an arc that leads from a node to it carries all that it can; two arcs to and fro are no way round for one of them alone.
func TestLoopsAndPairs(t *testing.T) {
	g := api.Net{N: 2, Arcs: []api.Arc{{Low: 2, High: 7}, {Low: 3, High: 3}, {To: 1, High: 5}, {From: 1, High: 0}, {From: 1, To: 1, High: 1}}}
	for arc, want := range []api.Pair{{A: 2, B: 7}, {A: 3, B: 3}, {}, {}, {B: 1}} {
		if low, high, e := flow.Range(g, arc); low != want.A || high != want.B || e != api.OK {
			t.Errorf("Range of %d: %d, %d, error %d", arc, low, high, e)
		}
	}
	if l, e := flow.Fixed(g); !slices.Equal(l, []int{1, 2, 3}) || e != api.OK {
		t.Errorf("Fixed: %v, error %d", l, e)
	}
	g.Arcs[3].High = 4
	if l, e := flow.Fixed(g); !slices.Equal(l, []int{1}) || e != api.OK {
		t.Errorf("Fixed: %v, error %d", l, e)
	}
	between := api.Net{N: 2, Arcs: []api.Arc{{To: 1, Low: 1, High: 3}, {From: 1, Low: 2, High: 2}}}
	if l, e := flow.Fixed(between); !slices.Equal(l, []int{0, 1}) || e != api.OK {
		t.Errorf("Fixed of an arc that could carry more and less alone: %v, error %d", l, e)
	}
}

// F11: over arcs with room, and back over arcs that carry more than they have to.
func TestReachOfSample(t *testing.T) {
	g := api.Net{N: 4, Arcs: []api.Arc{{From: 0, To: 1, Low: 1, High: 3}, {From: 1, To: 0, Low: 1, High: 3}, {From: 1, To: 2, High: 2}, {From: 2, To: 1, High: 2}, {From: 3, To: 3, High: 1}}}
	for _, c := range []struct {
		x, from0, from2 []int
	}{
		{[]int{1, 1, 0, 0, 0}, []int{0, 1, 2}, []int{0, 1, 2}}, {[]int{3, 3, 2, 2, 1}, []int{0, 1, 2}, []int{0, 1, 2}},
	} {
		for from, want := range map[int][]int{0: c.from0, 2: c.from2, 3: {3}} {
			if l, e := flow.Reach(g, c.x, from); !slices.Equal(l, want) || e != api.OK {
				t.Errorf("Reach by %v from %d: %v, error %d, want %v", c.x, from, l, e, want)
			}
		}
	}
	g.Arcs[3].High, g.Arcs[2].High, g.Arcs[2].Low = 0, 0, 0
	if l, e := flow.Reach(g, []int{2, 2, 0, 0, 0}, 1); !slices.Equal(l, []int{0, 1}) || e != api.OK {
		t.Errorf("Reach from 1: %v, error %d", l, e)
	}
	one := api.Net{N: 2, Arcs: []api.Arc{{To: 1, High: 1}, {From: 1, High: 1}}}
	one.Arcs[1].High = 0
	if l, e := flow.Reach(one, []int{0, 0}, 0); !slices.Equal(l, []int{0, 1}) || e != api.OK {
		t.Errorf("Reach one way: %v, error %d", l, e)
	}
	if l, e := flow.Reach(one, []int{0, 0}, 1); !slices.Equal(l, []int{1}) || e != api.OK {
		t.Errorf("Reach the other way: %v, error %d", l, e)
	}
	for _, from := range []int{math.MinInt, -1, 2, math.MaxInt} {
		if l, e := flow.Reach(one, []int{0, 0}, from); l != nil || e != api.ErrArg {
			t.Errorf("Reach from %d: %v, error %d", from, l, e)
		}
	}
	if l, e := flow.Reach(one, []int{1, 0}, 0); l != nil || e != api.ErrCut {
		t.Errorf("Reach by no circulation: %v, error %d", l, e)
	}
}

// F9 to F11: the ranges, the circulations through all amounts, what is fixed and what is reached, among all circulations of small nets.
func TestArcsOfAll(t *testing.T) {
	r := random(7)
	some, fixed, apart := 0, 0, 0
	for range 4000 {
		g := smallNet(r)
		all := circulations(g)
		var still []int
		for arc := range g.Arcs {
			amounts := amountsOf(all, arc)
			for n := -1; n <= 5; n++ {
				x, is, e := flow.Through(g, arc, n)
				if is != slices.Contains(amounts, n) || e != api.OK || is && (!kept(g, x) || x[arc] != n) || !is && x != nil {
					t.Fatalf("Through(%v, %d, %d): %v, %t, error %d", g, arc, n, x, is, e)
				}
			}
			low, high, e := flow.Range(g, arc)
			if len(all) == 0 {
				if low != 0 || high != 0 || e != api.ErrCut {
					t.Fatalf("Range(%v, %d): %d, %d, error %d", g, arc, low, high, e)
				}
				continue
			}
			least, most := extremes(amounts)
			if low != least || high != most || e != api.OK {
				t.Fatalf("Range(%v, %d): %d, %d, error %d, want %d, %d", g, arc, low, high, e, least, most)
			}
			if least == most {
				still = append(still, arc)
			}
		}
		l, e := flow.Fixed(g)
		if len(all) == 0 {
			if l != nil || e != api.ErrCut {
				t.Fatalf("Fixed(%v): %v, error %d", g, l, e)
			}
			continue
		}
		some++
		if !slices.Equal(l, still) || e != api.OK {
			t.Fatalf("Fixed(%v): %v, error %d, want %v", g, l, e, still)
		}
		fixed += len(still)
		x, from := pick(r, all...), r.IntN(g.N)
		want := reachable(g, x, from)
		if l, e := flow.Reach(g, x, from); !slices.Equal(l, want) || e != api.OK {
			t.Fatalf("Reach(%v, %v, %d): %v, error %d, want %v", g, x, from, l, e, want)
		}
		if len(want) > 1 && len(want) < g.N {
			apart++
		}
	}
	if some < 500 || fixed < 500 || apart < 100 {
		t.Errorf("%d nets with circulations, %d fixed arcs, %d times some nodes were reached and some not", some, fixed, apart)
	}
}
