package bound_test

import (
	"math/rand/v2"
	"slices"
	"testing"

	"couchant/api"
	"couchant/bound"
	"couchant/fell"
)

// turn is an arc whose amount is chosen, or, if node is not -1, follows from those of all other arcs at this node.
type turn struct{ arc, node int }

// turns returns an order in which the amounts of a network with so many places can be found.
func turns(g api.Net, places int) []turn {
	tick := func(node int) int { return (node + 2*places - 1) / (2 * places) }
	open := make([]int, g.N)
	known := make([]bool, len(g.Arcs))
	for _, a := range g.Arcs {
		open[a.From]++
		open[a.To]++
	}
	var order []turn
	for range g.Arcs {
		best, bestKey := turn{-1, -1}, [2]int{}
		for i, a := range g.Arcs {
			key := [2]int{max(tick(a.From), tick(a.To)), a.High - a.Low}
			at := -1
			for _, node := range []int{a.From, a.To} {
				if open[node] == 1 {
					at, key = node, [2]int{-1}
				}
			}
			if !known[i] && (best.arc < 0 || slices.Compare(key[:], bestKey[:]) < 0) {
				best, bestKey = turn{i, at}, key
			}
		}
		order = append(order, best)
		known[best.arc] = true
		open[g.Arcs[best.arc].From]--
		open[g.Arcs[best.arc].To]--
	}
	return order
}

// histories returns all circulations of a network, and true; false if this is too much work.
func histories(g api.Net, places int) ([][]int, bool) {
	const most, patience = 1500, 200000
	order := turns(g, places)
	open, over := make([]int, g.N), make([]int, g.N)
	for _, a := range g.Arcs {
		open[a.From]++
		open[a.To]++
	}
	var all [][]int
	x, work := make([]int, len(g.Arcs)), 0
	var try func(at int)
	try = func(at int) {
		if work++; work > patience || len(all) > most {
			return
		}
		if at == len(order) {
			all = append(all, slices.Clone(x))
			return
		}
		arc, node := order[at].arc, order[at].node
		a := g.Arcs[arc]
		first, last := a.Low, a.High
		switch node {
		case a.From:
			first, last = max(a.Low, over[node]), min(a.High, over[node])
		case a.To:
			first, last = max(a.Low, -over[node]), min(a.High, -over[node])
		}
		open[a.From]--
		open[a.To]--
		for n := first; n <= last; n++ {
			x[arc] = n
			over[a.From] -= n
			over[a.To] += n
			if (open[a.From] > 0 || over[a.From] == 0) && (open[a.To] > 0 || over[a.To] == 0) {
				try(at + 1)
			}
			over[a.From] += n
			over[a.To] -= n
		}
		open[a.From]++
		open[a.To]++
	}
	try(0)
	return all, work <= patience && len(all) <= most
}

// kept tells whether amounts are a circulation.
func kept(g api.Net, x []int) bool {
	if len(x) != len(g.Arcs) {
		return false
	}
	over := make([]int, g.N)
	for i, a := range g.Arcs {
		if x[i] < a.Low || x[i] > a.High {
			return false
		}
		over[a.From] -= x[i]
		over[a.To] += x[i]
	}
	return !slices.ContainsFunc(over, func(n int) bool { return n != 0 })
}

// smallScene returns a scene so small that all histories can be tried, and these.
func smallScene(t testing.TB, r *rand.Rand) (scene, [][]int) {
	t.Helper()
	for {
		s := pick(r, shape{2, 0, 3, 3, 3}, shape{3, 0, 2, 2, 3}, shape{1, 1, 2, 2, 2}, shape{2, 1, 1, 1, 1})
		c := randomScene(t, r, s, 6, 3)
		if all, is := histories(c.net(t), len(c.f.Places)); is {
			return c, all
		}
	}
}

// value returns that of a figure in a history.
func value(t testing.TB, f api.Fell, x api.Figure, history []int) int {
	t.Helper()
	if x.Place == -1 {
		n, e := fell.Present(f, history, x.Tick)
		mustOK(t, "Present", e)
		return n
	}
	n, e := fell.At(f, history, x.Place, x.Tick)
	mustOK(t, "At", e)
	return n
}

// values returns those of a figure in all histories.
func values(t testing.TB, f api.Fell, x api.Figure, all [][]int) []int {
	t.Helper()
	var l []int
	for _, history := range all {
		l = append(l, value(t, f, x, history))
	}
	return l
}

// found returns the numbers that a history has at a set of gatherings.
func found(t testing.TB, f api.Fell, g []api.Gathering, set, history []int) []int {
	t.Helper()
	var numbers []int
	for _, i := range set {
		n, e := fell.At(f, history, g[i].Place, g[i].Tick)
		mustOK(t, "At", e)
		numbers = append(numbers, n)
	}
	return numbers
}

// outcomesOf returns all outcomes of a set, ascending.
func outcomesOf(t testing.TB, f api.Fell, g []api.Gathering, set []int, all [][]int) [][]int {
	t.Helper()
	var outcomes [][]int
	for _, history := range all {
		outcomes = append(outcomes, found(t, f, g, set, history))
	}
	slices.SortFunc(outcomes, slices.Compare)
	return slices.CompactFunc(outcomes, slices.Equal)
}

// isDecided tells whether no two histories with the same outcome lie on different sides of the limit.
func isDecided(t testing.TB, f api.Fell, x api.Figure, limit int, g []api.Gathering, set []int, all [][]int) bool {
	t.Helper()
	outcomes := outcomesOf(t, f, g, set, all)
	sides := make([][2]bool, len(outcomes))
	for _, history := range all {
		at, _ := slices.BinarySearchFunc(outcomes, found(t, f, g, set, history), slices.Compare)
		side := 0
		if value(t, f, x, history) > limit {
			side = 1
		}
		sides[at][side] = true
	}
	return !slices.Contains(sides, [2]bool{true, true})
}

// sets returns all ascending lists of numbers from 0 to below size, the shorter ones first, then in ascending order.
func sets(size int) [][]int {
	all := [][]int{nil}
	for n := range size {
		for _, s := range all {
			all = append(all, append(slices.Clone(s), n))
		}
	}
	slices.SortFunc(all, func(a, b []int) int {
		if len(a) != len(b) {
			return len(a) - len(b)
		}
		return slices.Compare(a, b)
	})
	return all
}

// cheapestOf returns the cheapest of the sets that decide a case: among equally cheap ones the first of sets.
func cheapestOf(t testing.TB, f api.Fell, x api.Figure, limit int, g []api.Gathering, all [][]int) (api.Errand, api.Errno) {
	t.Helper()
	best := api.Errand{Cost: -1}
	for _, set := range sets(len(g)) {
		cost := 0
		for _, i := range set {
			cost += g[i].Cost
		}
		if (best.Cost < 0 || cost < best.Cost) && isDecided(t, f, x, limit, g, set, all) {
			best = api.Errand{Set: set, Cost: cost}
		}
	}
	if best.Cost < 0 {
		return api.Errand{}, api.ErrFar
	}
	return best, api.OK
}

// leftOut returns the Ids of the reports of a scene's sheep that are left if, from the last one to the first one, each is left out without which the others are as is asked.
func leftOut(t testing.TB, c scene, is func(l []api.Report) bool) []int {
	t.Helper()
	l := c.counting(t)
	for i := len(l) - 1; i >= 0; i-- {
		if fewer := slices.Delete(slices.Clone(l), i, i+1); is(fewer) {
			l = fewer
		}
	}
	return idsOf(l)
}

// endBy returns the high or the low end of a figure by some reports alone, and whether they agree.
func endBy(t testing.TB, f api.Fell, l []api.Report, x api.Figure, upper bool) (int, bool) {
	t.Helper()
	least, most, e := bound.Ends(f, l, api.MaxDay, x)
	if e == api.ErrDoubt {
		return 0, false
	}
	mustOK(t, "Ends", e)
	if upper {
		return most, true
	}
	return least, true
}
