package flow_test

import (
	"math/rand/v2"
	"reflect"
	"slices"
	"testing"

	"couchant/api"
	"couchant/flow"
)

// greatest and least return the best sums of nets that have circulations.
func greatest(t *testing.T, g api.Net, w []int) int {
	t.Helper()
	n, _, _, e := flow.Greatest(g, w)
	mustOK(t, "Greatest", e)
	return n
}

func least(t *testing.T, g api.Net, w []int) int {
	t.Helper()
	n, _, _, e := flow.Least(g, w)
	mustOK(t, "Least", e)
	return n
}

// anyNet returns a net of some size, of which some have no circulation.
func anyNet(r *rand.Rand) api.Net {
	most := pick(r, 1, 5, 100, 1000000)
	g, _ := roundNet(r, 1+r.IntN(pick(r, 4, 12, 40)), r.IntN(pick(r, 8, 40, 120)), most)
	if len(g.Arcs) == 0 || r.IntN(2) == 0 {
		return g
	}
	for range 1 + r.IntN(3) {
		a := &g.Arcs[r.IntN(len(g.Arcs))]
		a.Low = min(a.Low+r.IntN(most+1), api.MaxAmount)
		a.High = max(a.Low, min(a.High, a.Low+r.IntN(most+1)))
	}
	return g
}

// circulating returns a net of some size that has a circulation, and one of these.
func circulating(r *rand.Rand) (api.Net, []int) {
	g, _ := roundNet(r, 1+r.IntN(pick(r, 4, 12, 40)), 1+r.IntN(pick(r, 8, 40, 120)), pick(r, 1, 5, 100, 1000000))
	_, x, _, _ := flow.Greatest(g, randomWeights(r, g))
	return g, x
}

// P6.2 (T5).
func TestOneOfTheTwo(t *testing.T) {
	r := random(31)
	count := map[bool]int{}
	for range 3000 {
		g := anyNet(r)
		x, e := flow.Some(g)
		o, is, f := flow.Obstacle(g)
		mustOK(t, "Obstacle", f)
		if is == (e == api.OK) || e != api.OK && (e != api.ErrCut || x != nil) {
			t.Fatalf("Some: error %d, Obstacle: %t of %v", e, is, g)
		}
		count[is]++
		if is {
			fits, e := flow.CheckObstacle(g, o)
			if !fits || e != api.OK {
				t.Fatalf("CheckObstacle(%v, %v): %t, error %d", g, o, fits, e)
			}
			continue
		}
		fits, e := flow.Kept(g, x)
		if !fits || !kept(g, x) || e != api.OK {
			t.Fatalf("Kept(%v, %v): %t, error %d", g, x, fits, e)
		}
		for range 10 {
			var nodes []int
			for node := range g.N {
				if r.IntN(2) == 0 {
					nodes = append(nodes, node)
				}
			}
			if fits, e := flow.CheckObstacle(g, cut(nodes...)); fits || e != api.OK {
				t.Fatalf("CheckObstacle(%v, %v): %t, error %d, with a circulation", g, nodes, fits, e)
			}
		}
	}
	if count[true] < 500 || count[false] < 500 {
		t.Errorf("nets with obstacles, and without: %v", count)
	}
}

// P6.3 (T6): no circulation has a sum above any bound, and the proofs are accepted.
func TestProofs(t *testing.T) {
	r := random(32)
	for range 1500 {
		g, x := circulating(r)
		w := randomWeights(r, g)
		n, best, p, e := flow.Greatest(g, w)
		mustOK(t, "Greatest", e)
		if is, e := flow.CheckBest(g, w, best, p); !is || e != api.OK || total(w, best) != n {
			t.Fatalf("CheckBest(%v, %v, %v, %v): %t, error %d, for %d", g, w, best, p, is, e, n)
		}
		m, worst, q, e := flow.Least(g, w)
		mustOK(t, "Least", e)
		if is, e := flow.CheckBest(g, mirrored(w), worst, q); !is || e != api.OK || total(w, worst) != m {
			t.Fatalf("CheckBest(%v, %v, %v, %v) of the least: %t, error %d, for %d", g, w, worst, q, is, e, m)
		}
		if total(w, x) > n || total(w, x) < m {
			t.Fatalf("%v has with %v the sum %d, which is not from %d to %d", x, w, total(w, x), m, n)
		}
		if opposite := greatest(t, g, mirrored(w)); m != -opposite {
			t.Fatalf("Least of %v with %v: %d, Greatest of the opposite weights: %d", g, w, m, opposite)
		}
		for _, most := range []int{1, 5, 1000, 10000000} {
			others := randomList(r, g.N, -most, most)
			if bound, e := flow.Bound(g, w, others); e != api.OK || bound < n {
				t.Fatalf("Bound(%v, %v, %v): %d, error %d, and a circulation has %d", g, w, others, bound, e, n)
			}
		}
	}
}

// P6.3: what CheckBest accepts has the greatest sum, whoever found it.
func TestAcceptedIsGreatest(t *testing.T) {
	r := random(33)
	accepted := 0
	for range 8000 {
		g, x := circulating(r)
		w := randomWeights(r, g)
		_, y, p, e := flow.Greatest(g, w)
		mustOK(t, "Greatest", e)
		x = pick(r, x, y)
		if node := r.IntN(g.N); r.IntN(2) == 0 {
			p[node] += pick(r, -1, 1)
		}
		is, e := flow.CheckBest(g, w, x, p)
		mustOK(t, "CheckBest", e)
		if is && (!kept(g, x) || total(w, x) != greatest(t, g, w)) {
			t.Fatalf("CheckBest(%v, %v, %v, %v) accepts %d, there is %d", g, w, x, p, total(w, x), greatest(t, g, w))
		}
		if is {
			accepted++
		}
	}
	if accepted < 1000 || accepted > 7000 {
		t.Errorf("%d proofs accepted", accepted)
	}
}

// P6.4 (T6): an amount is in a Range exactly if a circulation has it.
func TestSharpRanges(t *testing.T) {
	r := random(34)
	still := 0
	for range 400 {
		g, x := circulating(r)
		var fixed []int
		for arc := range g.Arcs {
			low, high, e := flow.Range(g, arc)
			mustOK(t, "Range", e)
			if x[arc] < low || x[arc] > high {
				t.Fatalf("Range(%v, %d): %d, %d, but %v has it otherwise", g, arc, low, high, x)
			}
			if low == high {
				fixed = append(fixed, arc)
			}
			for _, n := range []int{low - 1, low, low + r.IntN(high-low+1), high, high + 1} {
				y, is, e := flow.Through(g, arc, n)
				if is != (low <= n && n <= high) || e != api.OK || is && (!kept(g, y) || y[arc] != n) {
					t.Fatalf("Through(%v, %d, %d): %v, %t, error %d, the Range is %d, %d", g, arc, n, y, is, e, low, high)
				}
			}
		}
		still += len(fixed)
		if l, e := flow.Fixed(g); !slices.Equal(l, fixed) || e != api.OK {
			t.Fatalf("Fixed(%v): %v, error %d, want %v", g, l, e, fixed)
		}
	}
	if still < 500 {
		t.Errorf("%d fixed arcs", still)
	}
}

// P6.5: a proof's bound, and an obstacle, stay without the records on which they do not rest.
func TestRecordsThatMatter(t *testing.T) {
	r := random(35)
	lifted, lost := 0, 0
	for range 2000 {
		g := anyNet(r)
		w := randomWeights(r, g)
		o, is, e := flow.Obstacle(g)
		mustOK(t, "Obstacle", e)
		// holds tells whether what was shown of the net is shown of another one.
		var rests []int
		var holds func(h api.Net) bool
		if is {
			rests, e = flow.ObstacleRecords(g, o)
			mustOK(t, "ObstacleRecords", e)
			holds = func(h api.Net) bool {
				is, e := flow.CheckObstacle(h, o)
				return is && e == api.OK
			}
		} else {
			n, _, p, e := flow.Greatest(g, w)
			mustOK(t, "Greatest", e)
			rests, e = flow.Records(g, w, p)
			mustOK(t, "Records", e)
			holds = func(h api.Net) bool {
				m, e := flow.Bound(h, w, p)
				return m == n && e == api.OK
			}
		}
		h := g
		for record := 1; record <= 5; record++ {
			if slices.Contains(rests, record) {
				if other, e := flow.Without(g, record); e == api.OK && !holds(other) {
					lost++
				}
				continue
			}
			other, e := flow.Without(g, record)
			mustOK(t, "Without", e)
			h, e = flow.Without(h, record)
			mustOK(t, "Without", e)
			if !holds(other) || !holds(h) {
				t.Fatalf("what rests on %v in %v does not hold without %d", rests, g, record)
			}
			lifted++
		}
	}
	if lifted < 1000 || lost < 1000 {
		t.Errorf("%d times without a record that did not matter, %d times without one that did", lifted, lost)
	}
}

// P6.6: Narrow only narrows.
func TestNarrowNarrows(t *testing.T) {
	r := random(36)
	some := 0
	for range 1500 {
		g, x := circulating(r)
		w := randomWeights(r, g)
		arc := r.IntN(len(g.Arcs))
		near := func() int { return min(max(0, x[arc]+pick(r, 0, 1, -1, r.IntN(100), -r.IntN(100))), api.MaxAmount) }
		h := narrow(t, g, arc, min(near(), pick(r, 0, near())), max(near(), pick(r, 0, near())), 3)
		y, _, p, e := flow.Greatest(h, w)
		if e == api.ErrCut {
			continue
		}
		mustOK(t, "Greatest", e)
		some++
		if n := greatest(t, g, w); y > n || len(p) != g.N {
			t.Fatalf("Greatest(%v, %v): %d, of the wider net %d", h, w, y, n)
		}
		z, e := flow.Some(h)
		mustOK(t, "Some", e)
		if is, e := flow.Kept(g, z); !is || e != api.OK {
			t.Fatalf("Kept(%v, %v): %t, error %d, it is of the narrower net", g, z, is, e)
		}
		for range 3 {
			arc := r.IntN(len(g.Arcs))
			low, high, e := flow.Range(g, arc)
			mustOK(t, "Range", e)
			least, most, e := flow.Range(h, arc)
			mustOK(t, "Range", e)
			if least < low || most > high {
				t.Fatalf("Range(%v, %d): %d, %d, of the wider net %d, %d", h, arc, least, most, low, high)
			}
		}
	}
	if some < 500 {
		t.Errorf("%d narrower nets with circulations", some)
	}
}

// P6.7: circles, as many as arcs at most, add up to the circulation.
func TestCirclesAddUp(t *testing.T) {
	r := random(37)
	for range 2000 {
		g, x := circulating(r)
		l, e := flow.Circles(g, x)
		mustOK(t, "Circles", e)
		if len(l) > len(g.Arcs) {
			t.Fatalf("Circles(%v, %v): %d circles", g, x, len(l))
		}
		for _, c := range l {
			if !round(g, c.Arcs) || c.Amount < 1 || c.Amount > api.MaxAmount {
				t.Fatalf("Circles(%v, %v): %v", g, x, c)
			}
		}
		if y, e := flow.FromCircles(g, l); !slices.Equal(y, x) || e != api.OK {
			t.Fatalf("FromCircles(%v, %v): %v, error %d, want %v", g, l, y, e, x)
		}
	}
}

// P6.7: one is reached from oneself, and what is reached from what is reached is reached.
func TestReachOfReached(t *testing.T) {
	r := random(38)
	apart := 0
	for range 500 {
		g, x := circulating(r)
		reach := func(from int) []int {
			l, e := flow.Reach(g, x, from)
			mustOK(t, "Reach", e)
			if !slices.Equal(l, reachable(g, x, from)) {
				t.Fatalf("Reach(%v, %v, %d): %v", g, x, from, l)
			}
			return l
		}
		from := r.IntN(g.N)
		first := reach(from)
		if !slices.Contains(first, from) {
			t.Fatalf("Reach(%v, %v, %d): %v", g, x, from, first)
		}
		if len(first) > 1 && len(first) < g.N {
			apart++
		}
		for _, node := range first {
			for _, other := range reach(node) {
				if !slices.Contains(first, other) {
					t.Fatalf("%d is reached from %d, this from %d, but not that", other, node, from)
				}
			}
		}
	}
	if apart < 50 {
		t.Errorf("%d times some nodes were reached and some not", apart)
	}
}

// P6.8: the order of arcs.
func TestOrderOfArcs(t *testing.T) {
	r := random(39)
	for range 600 {
		g, _ := circulating(r)
		w := randomWeights(r, g)
		order := r.Perm(len(g.Arcs))
		h, v := api.Net{N: g.N}, []int{}
		for _, i := range order {
			h.Arcs, v = append(h.Arcs, g.Arcs[i]), append(v, w[i])
		}
		if n, m := greatest(t, g, w), greatest(t, h, v); n != m {
			t.Fatalf("Greatest(%v, %v): %d, in another order %d", g, w, n, m)
		}
		if n, m := least(t, g, w), least(t, h, v); n != m {
			t.Fatalf("Least(%v, %v): %d, in another order %d", g, w, n, m)
		}
		for place, i := range order[:min(len(order), 5)] {
			low, high, e := flow.Range(g, i)
			mustOK(t, "Range", e)
			if other, another, e := flow.Range(h, place); low != other || high != another || e != api.OK {
				t.Fatalf("Range(%v, %d): %d, %d, in another order %d, %d, error %d", g, i, low, high, other, another, e)
			}
		}
	}
}

// The largest nets: of random arcs, and of long chains over which everything has to go.
func TestLargestNets(t *testing.T) {
	r := random(40)
	random, _ := roundNet(r, 1000, 4000, 1000000)
	chain := api.Net{N: 1000}
	for arc := range 3999 {
		from := arc % 999
		chain.Arcs = append(chain.Arcs, api.Arc{From: from, To: min(999, from+1+r.IntN(3)), High: r.IntN(1000)})
	}
	chain.Arcs = append(chain.Arcs, api.Arc{From: 999, To: 0, High: 1000000})
	for _, g := range []api.Net{random, chain} {
		for _, w := range [][]int{randomList(r, 4000, -1000, 1000), append(zeros(3999), 1), append(randomList(r, 3999, -1000, -1000), 1000)} {
			n, x, p, e := flow.Greatest(g, w)
			mustOK(t, "Greatest", e)
			if is, e := flow.CheckBest(g, w, x, p); !is || e != api.OK || total(w, x) != n {
				t.Errorf("CheckBest of %d: %t, error %d", n, is, e)
			}
			l, e := flow.Circles(g, x)
			mustOK(t, "Circles", e)
			if y, e := flow.FromCircles(g, l); len(l) > 4000 || !slices.Equal(x, y) || e != api.OK {
				t.Errorf("FromCircles of %d circles: error %d", len(l), e)
			}
		}
		x, is, e := flow.Through(g, 3999, 0)
		if is && (!kept(g, x) || x[3999] != 0) || e != api.OK {
			t.Errorf("Through: %t, error %d", is, e)
		}
		if _, e := flow.Fixed(g); e != api.OK {
			t.Errorf("Fixed: error %d", e)
		}
		g.Arcs[0] = api.Arc{From: 0, To: 1, Low: 1000000, High: 1000000}
		g.Arcs[1] = api.Arc{From: 1, To: 2, High: 5}
		if o, is, e := flow.Obstacle(g); !is || e != api.OK || reflect.DeepEqual(o, api.Obstacle{}) || o.Arc == -1 && !cuts(g, o.Nodes) {
			t.Errorf("Obstacle: %t, error %d", is, e)
		}
	}
}
