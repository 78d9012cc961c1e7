package flow_test

import (
	"math/rand/v2"
	"slices"
	"testing"

	"couchant/api"
	"couchant/flow"
)

func mustOK(t testing.TB, what string, e api.Errno) {
	t.Helper()
	if e != api.OK {
		t.Fatalf("%s: error %d", what, e)
	}
}

// sample is the net of the chapter's examples.
func sample() api.Net {
	return api.Net{N: 3, Arcs: []api.Arc{{From: 0, To: 1, Low: 2, High: 5, LowBy: 1, HighBy: 2}, {From: 1, To: 2, High: 4, HighBy: 3}, {From: 2, To: 0, High: 9}, {From: 1, To: 0, High: 3, HighBy: 4}}}
}

// narrow returns a net in which an arc carries from low to high at most.
func narrow(t testing.TB, g api.Net, arc, low, high, record int) api.Net {
	t.Helper()
	h, e := flow.Narrow(g, arc, low, high, record)
	mustOK(t, "Narrow", e)
	return h
}

// cutSample is the sample without a circulation: two units have to go from node 0, and only one can come back.
func cutSample(t testing.TB) api.Net {
	return narrow(t, narrow(t, sample(), 1, 0, 0, 7), 3, 0, 1, 8)
}

func random(seed uint64) *rand.Rand { return rand.New(rand.NewPCG(seed, 16)) }

// pick returns one of the items.
func pick[T any](r *rand.Rand, items ...T) T { return items[r.IntN(len(items))] }

// randomList returns so many numbers from low to high.
func randomList(r *rand.Rand, size, low, high int) []int {
	l := make([]int, size)
	for i := range l {
		l[i] = low + r.IntN(high-low+1)
	}
	return l
}

// randomArcs returns a net whose arcs carry nothing.
func randomArcs(r *rand.Rand, nodes, arcs int) api.Net {
	g := api.Net{N: nodes}
	for range arcs {
		g.Arcs = append(g.Arcs, api.Arc{From: r.IntN(nodes), To: r.IntN(nodes), LowBy: r.IntN(6), HighBy: r.IntN(6)})
	}
	return g
}

// smallNet returns a net so small that all its circulations can be tried; it is often without any.
func smallNet(r *rand.Rand) api.Net {
	g := randomArcs(r, 1+r.IntN(4), r.IntN(7))
	for i := range g.Arcs {
		a := &g.Arcs[i]
		a.Low, a.High = pick(r, 0, 0, 0, 1, 2), r.IntN(4)
		if r.IntN(8) > 0 {
			a.High = max(a.High, a.Low)
		}
	}
	return g
}

// roundNet returns a net and a circulation of it, in which circles go round as far as there are any.
func roundNet(r *rand.Rand, nodes, arcs, most int) (api.Net, []int) {
	g := randomArcs(r, nodes, arcs)
	x := make([]int, arcs)
	for range arcs {
		amount := 1 + r.IntN(most)
		circle := wander(r, g, r.IntN(nodes))
		if slices.ContainsFunc(circle, func(i int) bool { return x[i]+amount > api.MaxAmount }) {
			continue
		}
		for _, i := range circle {
			x[i] += amount
		}
	}
	for i := range g.Arcs {
		a := &g.Arcs[i]
		a.Low, a.High = max(0, x[i]-pick(r, 0, 1, r.IntN(most+1))), min(api.MaxAmount, x[i]+pick(r, 0, 1, r.IntN(most+1)))
	}
	return g, x
}

// wander follows arcs from a node until it comes to a node again, and returns the arcs of this circle; none if it does not get on.
func wander(r *rand.Rand, g api.Net, node int) []int {
	var walk, nodes []int
	for {
		for i, n := range nodes {
			if n == node {
				return walk[i:]
			}
		}
		var onward []int
		for i, a := range g.Arcs {
			if a.From == node {
				onward = append(onward, i)
			}
		}
		if len(onward) == 0 {
			return nil
		}
		walk, nodes = append(walk, pick(r, onward...)), append(nodes, node)
		node = g.Arcs[walk[len(walk)-1]].To
	}
}

// randomWeights returns weights for a net, often few that are not 0.
func randomWeights(r *rand.Rand, g api.Net) []int {
	most := pick(r, 1, 1, 3, 1000)
	w := randomList(r, len(g.Arcs), -most, most)
	for i := range w {
		if r.IntN(3) == 0 {
			w[i] = 0
		}
	}
	return w
}

// zeros returns so many.
func zeros(size int) []int { return make([]int, size) }

// mirrored returns the opposite numbers.
func mirrored(l []int) []int {
	var m []int
	for _, n := range l {
		m = append(m, -n)
	}
	return m
}
