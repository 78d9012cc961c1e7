package flow

import "couchant/api"

// sum returns that of weight times amount.
func sum(w, x []int) int {
	n := 0
	for i, weight := range w {
		n += weight * x[i]
	}
	return n
}

// Sum returns the sum of amounts.
func Sum(g api.Net, w, x []int) (int, api.Errno) {
	if e := check(g, isWeights(g, w), isAmounts(g, x)); e != api.OK {
		return 0, e
	}
	return sum(w, x), api.OK
}

// rest returns what of the weight of an arc is left to it by potentials.
func rest(a api.Arc, weight int, p []int) int { return weight + p[a.From] - p[a.To] }

// bound returns the one that potentials show: in a circulation the rests have the same sum as the weights, and no arc can do more for it.
func bound(g api.Net, w, p []int) int {
	n := 0
	for i, a := range g.Arcs {
		r := rest(a, w[i], p)
		n += max(r, 0)*a.High + min(r, 0)*a.Low
	}
	return n
}

// Bound returns the bound that potentials show.
func Bound(g api.Net, w, p []int) (int, api.Errno) {
	if e := check(g, isWeights(g, w), isPotentials(g, p)); e != api.OK {
		return 0, e
	}
	return bound(g, w, p), api.OK
}

// potentials returns those that show the sum of a circulation that has the greatest one: no step gains by them.
func (c *carried) potentials() []int {
	distance := c.distances(func(int) bool { return true })
	var p []int
	for node := range c.N {
		p = append(p, -(distance[node] >> stepBits))
	}
	return p
}

// Greatest returns the greatest sum, a circulation that has it, and potentials that show it.
func Greatest(g api.Net, w []int) (int, []int, []int, api.Errno) {
	if e := check(g, isWeights(g, w)); e != api.OK {
		return 0, nil, nil, e
	}
	c, is := best(g, w)
	if !is {
		return 0, nil, nil, api.ErrCut
	}
	return sum(w, c.amounts), c.amounts, c.potentials(), api.OK
}

// Least returns the least sum, a circulation that has it, and potentials that show it for the opposite weights.
func Least(g api.Net, w []int) (int, []int, []int, api.Errno) {
	if e := check(g, isWeights(g, w)); e != api.OK {
		return 0, nil, nil, e
	}
	opposite := copied(w)
	for i := range opposite {
		opposite[i] = -opposite[i]
	}
	n, x, p, e := Greatest(g, opposite)
	return -n, x, p, e
}

// CheckBest tells whether amounts are a circulation whose sum is the bound that potentials show.
func CheckBest(g api.Net, w, x, p []int) (bool, api.Errno) {
	if e := check(g, isWeights(g, w), isAmounts(g, x), isPotentials(g, p)); e != api.OK {
		return false, e
	}
	return circulates(g, x) && sum(w, x) == bound(g, w, p), api.OK
}

// Records returns the records on which the bound that potentials show rests.
func Records(g api.Net, w, p []int) ([]int, api.Errno) {
	if e := check(g, isWeights(g, w), isPotentials(g, p)); e != api.OK {
		return nil, e
	}
	var ids []int
	for i, a := range g.Arcs {
		switch r := rest(a, w[i], p); {
		case r > 0:
			ids = append(ids, a.HighBy)
		case r < 0 && a.Low > 0:
			ids = append(ids, a.LowBy)
		}
	}
	return recordsAmong(ids), api.OK
}
