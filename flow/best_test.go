package flow_test

import (
	"math"
	"slices"
	"testing"

	"couchant/api"
	"couchant/flow"
)

// F5, F6, F8: the chapter's examples.
func TestSumsOfSample(t *testing.T) {
	g := sample()
	n, x, p, e := flow.Greatest(g, []int{1, 0, 1, 0})
	if n != 9 || e != api.OK || !kept(g, x) || x[0]+x[2] != 9 || len(p) != 3 {
		t.Errorf("Greatest: %d, %v, %v, error %d", n, x, p, e)
	}
	if n, e := flow.Sum(g, []int{1, 0, 1, 0}, []int{5, 4, 4, 1}); n != 9 || e != api.OK {
		t.Errorf("Sum: %d, error %d", n, e)
	}
	w := []int{0, 0, 1, 0}
	for _, x := range []struct {
		p    []int
		want int
	}{{[]int{0, 0, -1}, 4}, {[]int{0, 0, 0}, 9}, {[]int{0, 1, 0}, 14}, {[]int{7, 7, 6}, 4}} {
		if n, e := flow.Bound(g, w, x.p); n != x.want || e != api.OK {
			t.Errorf("Bound by %v: %d, error %d, want %d", x.p, n, e, x.want)
		}
	}
	n, x, p, e = flow.Greatest(g, w)
	if is, e := flow.CheckBest(g, w, x, p); n != 4 || !is || e != api.OK {
		t.Errorf("CheckBest of %d, %v, %v: %t, error %d", n, x, p, is, e)
	}
	if records, e := flow.Records(g, w, p); !slices.Equal(records, []int{3}) || e != api.OK {
		t.Errorf("Records by %v: %v, error %d", p, records, e)
	}
	n, x, p, e = flow.Least(g, []int{1, 0, 1, 0})
	if n != 2 || e != api.OK || !slices.Equal(x, []int{2, 0, 0, 2}) {
		t.Errorf("Least: %d, %v, %v, error %d", n, x, p, e)
	}
}

// F5: amounts need not be a circulation; both functions reach far beyond what circulations have.
func TestSumAndBoundAtTheirEnds(t *testing.T) {
	g := api.Net{N: 2}
	for range 4000 {
		g.Arcs = append(g.Arcs, api.Arc{To: 1, Low: 1000000, High: 1000000})
	}
	most := randomList(random(4), 4000, 1000000, 1000000)
	for _, weight := range []int{1000, -1000} {
		w := randomList(random(4), 4000, weight, weight)
		if n, e := flow.Sum(g, w, most); n != 4000000000*weight || e != api.OK {
			t.Errorf("Sum: %d, error %d", n, e)
		}
		for _, p := range []int{10000000, -10000000} {
			if n, e := flow.Bound(g, w, []int{p, -p}); n != 4000000000*(weight+2*p) || e != api.OK {
				t.Errorf("Bound: %d, error %d", n, e)
			}
		}
	}
	w := randomList(random(4), 4000, 1, 1)
	for _, p := range [][]int{{10000001, 0}, {0, -10000001}, {0}, {0, 0, 0}, nil, {math.MinInt, 0}, {0, math.MaxInt}} {
		if n, e := flow.Bound(g, w, p); n != 0 || e != api.ErrArg {
			t.Errorf("Bound by %v: %d, error %d", p, n, e)
		}
		if _, e := flow.Records(g, w, p); e != api.ErrArg {
			t.Errorf("Records by %v: error %d", p, e)
		}
		if _, e := flow.CheckBest(g, w, most, p); e != api.ErrArg {
			t.Errorf("CheckBest by %v: error %d", p, e)
		}
	}
	for _, weight := range []int{1001, -1001, math.MinInt, math.MaxInt} {
		w[3999] = weight
		if n, e := flow.Sum(g, w, most); n != 0 || e != api.ErrArg {
			t.Errorf("Sum with the weight %d: %d, error %d", weight, n, e)
		}
	}
}

// F6, F7: potentials of a long way, at whose steps all weights are lost, or won.
func TestPotentialsOfALongWay(t *testing.T) {
	for _, weight := range []int{-1000, 1000} {
		g := api.Net{N: 1000}
		w := []int{}
		for node := range 1000 {
			g.Arcs = append(g.Arcs, api.Arc{From: node, To: (node + 1) % 1000, High: 1000000})
			w = append(w, weight)
		}
		g.Arcs[0].Low = 1
		g.Arcs[0].High = 999999
		n, x, p, e := flow.Greatest(g, w)
		want := max(-1000000, 999999*weight*1000)
		if is, f := flow.CheckBest(g, w, x, p); n != want || !is || e != api.OK || f != api.OK {
			t.Errorf("Greatest of the weights %d: %d, want %d, %t, errors %d, %d", weight, n, want, is, e, f)
		}
	}
}

// F7: of amounts that are no circulation, or no best one, and of potentials that show too much.
func TestCheckBest(t *testing.T) {
	g, w := sample(), []int{0, 0, 1, 0}
	for _, c := range []struct {
		x, p []int
		want bool
	}{
		{[]int{5, 4, 4, 1}, []int{0, 0, -1}, true}, {[]int{4, 4, 4, 0}, []int{3, 3, 2}, true}, {[]int{4, 4, 4, 0}, []int{0, 0, 0}, false}, {[]int{3, 3, 3, 0}, []int{0, 0, -1}, false}, {[]int{0, 0, 4, 0}, []int{0, 0, -1}, false},
		{[]int{9, 9, 9, 0}, []int{0, 0, 0}, false}, {[]int{4, 4, 4, 0}, []int{0, 0, -2}, false},
	} {
		if is, e := flow.CheckBest(g, w, c.x, c.p); is != c.want || e != api.OK {
			t.Errorf("CheckBest of %v by %v: %t, error %d", c.x, c.p, is, e)
		}
	}
	none := api.Net{N: 2}
	if n, x, p, e := flow.Greatest(none, nil); n != 0 || len(x) != 0 || len(p) != 2 || e != api.OK {
		t.Errorf("Greatest without arcs: %d, %v, %v, error %d", n, x, p, e)
	}
	if is, e := flow.CheckBest(none, nil, nil, []int{-5, 10000000}); !is || e != api.OK {
		t.Errorf("CheckBest without arcs: %t, error %d", is, e)
	}
}

// F6: the greatest and the least sums of small nets among those of all their circulations.
func TestBestOfAll(t *testing.T) {
	r := random(5)
	some := 0
	for range 4000 {
		g := smallNet(r)
		w := randomWeights(r, g)
		all := circulations(g)
		n, x, p, e := flow.Greatest(g, w)
		m, y, q, f := flow.Least(g, w)
		if len(all) == 0 {
			if e != api.ErrCut || f != api.ErrCut || n != 0 || m != 0 || x != nil || y != nil || p != nil || q != nil {
				t.Fatalf("Greatest and Least of %v: %d, %v, %v, error %d; %d, %v, %v, error %d", g, n, x, p, e, m, y, q, f)
			}
			continue
		}
		some++
		low, high := extremes(sumsOf(all, w))
		if e != api.OK || n != high || !kept(g, x) || total(w, x) != n || len(p) != g.N {
			t.Fatalf("Greatest(%v, %v): %d, %v, %v, error %d, want %d", g, w, n, x, p, e, high)
		}
		if f != api.OK || m != low || !kept(g, y) || total(w, y) != m || len(q) != g.N {
			t.Fatalf("Least(%v, %v): %d, %v, %v, error %d, want %d", g, w, m, y, q, f, low)
		}
		above, _ := shown(g, w, p)
		below, _ := shown(g, mirrored(w), q)
		if above != high || below != -low {
			t.Fatalf("potentials of %v with %v: %v show %d, want %d, %v show %d, want %d", g, w, p, above, high, q, below, -low)
		}
	}
	if some < 1000 {
		t.Errorf("%d nets with circulations", some)
	}
}

// F5, F7, F8: any potentials and amounts, in the chapter's words.
func TestShownByAll(t *testing.T) {
	r := random(6)
	accepted, rested := 0, 0
	for range 6000 {
		g := smallNet(r)
		w := randomWeights(r, g)
		p := randomList(r, g.N, -pick(r, 1, 1, 2, 10000000), pick(r, 1, 1, 2, 10000000))
		x := randomList(r, len(g.Arcs), 0, 3)
		if all := circulations(g); len(all) > 0 {
			x = pick(r, all...)
		}
		if n, e := flow.Sum(g, w, x); n != total(w, x) || e != api.OK {
			t.Fatalf("Sum(%v, %v, %v): %d, error %d", g, w, x, n, e)
		}
		bound, by := shown(g, w, p)
		if n, e := flow.Bound(g, w, p); n != bound || e != api.OK {
			t.Fatalf("Bound(%v, %v, %v): %d, error %d, want %d", g, w, p, n, e, bound)
		}
		if l, e := flow.Records(g, w, p); !slices.Equal(l, by) || e != api.OK {
			t.Fatalf("Records(%v, %v, %v): %v, error %d, want %v", g, w, p, l, e, by)
		}
		if len(by) > 1 {
			rested++
		}
		want := kept(g, x) && total(w, x) == bound
		if want {
			accepted++
		}
		if is, e := flow.CheckBest(g, w, x, p); is != want || e != api.OK {
			t.Fatalf("CheckBest(%v, %v, %v, %v): %t, error %d, want %t", g, w, x, p, is, e, want)
		}
	}
	if accepted < 200 || rested < 1000 {
		t.Errorf("%d proofs accepted, %d bounds rest on more than one record", accepted, rested)
	}
}
