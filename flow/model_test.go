package flow_test

import (
	"slices"

	"couchant/api"
)

// kept tells whether amounts are a circulation, in the chapter's words.
func kept(g api.Net, x []int) bool {
	for i, a := range g.Arcs {
		if x[i] < a.Low || x[i] > a.High {
			return false
		}
	}
	for node := range g.N {
		gets, gives := 0, 0
		for i, a := range g.Arcs {
			if a.To == node {
				gets += x[i]
			}
			if a.From == node {
				gives += x[i]
			}
		}
		if gets != gives {
			return false
		}
	}
	return true
}

// circulations returns all circulations of a small net.
func circulations(g api.Net) [][]int {
	var all [][]int
	x := zeros(len(g.Arcs))
	var try func(arc int)
	try = func(arc int) {
		if arc == len(x) {
			if kept(g, x) {
				all = append(all, slices.Clone(x))
			}
			return
		}
		for n := g.Arcs[arc].Low; n <= g.Arcs[arc].High; n++ {
			x[arc] = n
			try(arc + 1)
		}
	}
	try(0)
	return all
}

// cuts tells whether more has to go out of some nodes than can come in.
func cuts(g api.Net, nodes []int) bool {
	has, can := 0, 0
	for _, a := range g.Arcs {
		from, to := slices.Contains(nodes, a.From), slices.Contains(nodes, a.To)
		if from && !to {
			has += a.Low
		}
		if to && !from {
			can += a.High
		}
	}
	return has > can
}

// subsets returns all sets of the numbers from 0 to below size, ascending.
func subsets(size int) [][]int {
	sets := [][]int{nil}
	for n := range size {
		for _, s := range sets {
			sets = append(sets, append(slices.Clone(s), n))
		}
	}
	return sets
}

// obstacles returns all that a small net has.
func obstacles(g api.Net) []api.Obstacle {
	var all []api.Obstacle
	for i, a := range g.Arcs {
		if a.Low > a.High {
			all = append(all, api.Obstacle{Arc: i})
		}
	}
	for _, s := range subsets(g.N) {
		if cuts(g, s) {
			all = append(all, api.Obstacle{Arc: -1, Nodes: s})
		}
	}
	return all
}

// total is the sum of amounts.
func total(w, x []int) int {
	n := 0
	for i := range w {
		n += w[i] * x[i]
	}
	return n
}

// shown is the bound that potentials show, and the records on which it rests.
func shown(g api.Net, w, p []int) (bound int, records []int) {
	var by []int
	for i, a := range g.Arcs {
		rest := w[i] + p[a.From] - p[a.To]
		if rest > 0 {
			bound += rest * a.High
			by = append(by, a.HighBy)
		}
		if rest < 0 {
			bound += rest * a.Low
			if a.Low > 0 {
				by = append(by, a.LowBy)
			}
		}
	}
	return bound, recordsOf(by)
}

// recordsOf returns those from 1 to 5, which are all that random nets have, that are among some.
func recordsOf(by []int) []int {
	var records []int
	for n := 1; n <= 5; n++ {
		if slices.Contains(by, n) {
			records = append(records, n)
		}
	}
	return records
}

// obstructing returns the records on which an obstacle rests.
func obstructing(g api.Net, o api.Obstacle) []int {
	var by []int
	for i, a := range g.Arcs {
		from, to := slices.Contains(o.Nodes, a.From), slices.Contains(o.Nodes, a.To)
		if i == o.Arc || from && !to && a.Low > 0 {
			by = append(by, a.LowBy)
		}
		if i == o.Arc || to && !from {
			by = append(by, a.HighBy)
		}
	}
	return recordsOf(by)
}

// extremes returns the least and the greatest of some numbers.
func extremes(l []int) (int, int) { return slices.Min(l), slices.Max(l) }

// sumsOf returns the sums of all circulations, amountsOf what an arc carries in them.
func sumsOf(all [][]int, w []int) []int {
	var l []int
	for _, x := range all {
		l = append(l, total(w, x))
	}
	return l
}

func amountsOf(all [][]int, arc int) []int {
	var l []int
	for _, x := range all {
		l = append(l, x[arc])
	}
	return l
}

// reachable returns to which nodes a unit more can be led from a node.
func reachable(g api.Net, x []int, from int) []int {
	is := map[int]bool{from: true}
	for range g.N {
		for i, a := range g.Arcs {
			if is[a.From] && x[i] < a.High {
				is[a.To] = true
			}
			if is[a.To] && x[i] > a.Low {
				is[a.From] = true
			}
		}
	}
	var nodes []int
	for node := range g.N {
		if is[node] {
			nodes = append(nodes, node)
		}
	}
	return nodes
}

// round tells whether arcs are a circle.
func round(g api.Net, arcs []int) bool {
	seen := map[int]bool{}
	for k, i := range arcs {
		before := (k + len(arcs) - 1) % len(arcs)
		if i < 0 || i >= len(g.Arcs) || arcs[before] < 0 || arcs[before] >= len(g.Arcs) {
			return false
		}
		from := g.Arcs[i].From
		if g.Arcs[arcs[before]].To != from || seen[from] {
			return false
		}
		seen[from] = true
	}
	return len(arcs) > 0
}
