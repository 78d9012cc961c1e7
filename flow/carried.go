package flow

import (
	"iter"
	"math"
	"slices"

	"couchant/api"
)

// carried is a net with weights, of which each arc carries an amount from its Low to its High.
type carried struct {
	api.Net
	weights, amounts []int
	// beside is the arcs from or to each node.
	beside [][]int
	// over is how much more each node gets than it gives.
	over [api.MaxNodes]int
}

// carry returns a net with weights that carries amounts, which it keeps.
func carry(g api.Net, weights, amounts []int) *carried {
	c := &carried{Net: g, weights: weights, amounts: amounts, beside: make([][]int, g.N), over: balance(g, amounts)}
	for i, a := range c.Arcs {
		c.beside[a.From] = append(c.beside[a.From], i)
		if a.To != a.From {
			c.beside[a.To] = append(c.beside[a.To], i)
		}
	}
	return c
}

// none returns the weights that make no difference, or the amounts of nothing.
func none(g api.Net) []int { return make([]int, len(g.Arcs)) }

// greedy returns a net, none of whose Lows is above its High, with the amounts that have the greatest sum if nothing has to circulate.
func greedy(g api.Net, weights []int) *carried {
	amounts := none(g)
	for i, a := range g.Arcs {
		amounts[i] = a.Low
		if weights[i] > 0 {
			amounts[i] = a.High
		}
	}
	return carry(g, weights, amounts)
}

// step is an arc of the residual net: an arc of the net that can carry so much more as there is room (way 1), or so much less (way -1), and the node to which this leads.
type step struct{ arc, way, to, room int }

// steps yields those from a node.
func (c *carried) steps(node int) iter.Seq[step] {
	return func(yield func(step) bool) {
		for _, i := range c.beside[node] {
			a, x := &c.Arcs[i], c.amounts[i]
			if a.From == node && x < a.High && !yield(step{i, 1, a.To, a.High - x}) {
				return
			}
			if a.To == node && x > a.Low && !yield(step{i, -1, a.From, x - a.Low}) {
				return
			}
		}
	}
}

// Lengths of ways tell first what the sum loses by a unit, then the number of steps, which is less than 1 << stepBits on a shortest way, as it comes to no node twice.
const stepBits = 10

// beyond is the distance of a node to which no way leads.
const beyond = math.MaxInt

// length returns that of a step.
func (c *carried) length(s step) int {
	return 1 - s.way*c.weights[s.arc]<<stepBits
}

// distances returns the lengths of the shortest ways to all nodes from where they can start. No way leads back to its start with a gain.
func (c *carried) distances(start func(node int) bool) [api.MaxNodes]int {
	var distance [api.MaxNodes]int
	var waits [api.MaxNodes]bool
	var queue []int
	for node := range c.N {
		distance[node] = beyond
		if start(node) {
			distance[node], waits[node] = 0, true
			queue = append(queue, node)
		}
	}
	for len(queue) > 0 {
		node := queue[0]
		queue, waits[node] = queue[1:], false
		for s := range c.steps(node) {
			far := distance[node] + c.length(s)
			if far >= distance[s.to] {
				continue
			}
			distance[s.to] = far
			if !waits[s.to] {
				queue, waits[s.to] = append(queue, s.to), true
			}
		}
	}
	return distance
}

// getsMore tells whether a node gets more than it gives.
func (c *carried) getsMore(node int) bool { return c.over[node] > 0 }

// lead leads what nodes get too much to nodes that give too much, along shortest ways only, so that the amounts keep the greatest sum of all with which these nodes get so much; it tells whether it led anything.
func (c *carried) lead() bool {
	distance := c.distances(c.getsMore)
	var onward func(node, most int) int
	// onward leads so much at most from a node, and returns how much; a node from which less can be led is out of reach from then on.
	onward = func(node, most int) int {
		led := max(0, min(most, -c.over[node]))
		c.over[node] += led
		for s := range c.steps(node) {
			if led == most {
				break
			}
			if distance[s.to] == distance[node]+c.length(s) {
				n := onward(s.to, min(s.room, most-led))
				c.amounts[s.arc] += s.way * n
				led += n
			}
		}
		if led < most {
			distance[node] = beyond
		}
		return led
	}
	some := false
	for node := range c.N {
		if c.getsMore(node) {
			led := onward(node, c.over[node])
			c.over[node] -= led
			some = some || led > 0
		}
	}
	return some
}

// settle leads all that it can, and tells whether the amounts are a circulation then.
func (c *carried) settle() bool {
	for c.lead() {
	}
	return c.over == [api.MaxNodes]int{}
}

// reached returns which nodes can be reached from one over steps along other arcs than one (-1: along all). It can stop as soon as a node is reached (-1: never).
func (c *carried) reached(from, until, without int) [api.MaxNodes]bool {
	var is [api.MaxNodes]bool
	is[from] = true
	queue := []int{from}
walk:
	for len(queue) > 0 {
		node := queue[0]
		queue = queue[1:]
		for s := range c.steps(node) {
			if is[s.to] || s.arc == without {
				continue
			}
			is[s.to] = true
			if s.to == until {
				break walk
			}
			queue = append(queue, s.to)
		}
	}
	return is
}

// crossed returns the first arc that would have to carry more than it can, -1 if there is none.
func crossed(g api.Net) int {
	return slices.IndexFunc(g.Arcs, func(a api.Arc) bool { return a.Low > a.High })
}

// best returns a circulation that has the greatest sum, and true; false if there is none.
func best(g api.Net, weights []int) (*carried, bool) {
	if crossed(g) >= 0 {
		return nil, false
	}
	c := greedy(g, weights)
	if !c.settle() {
		return nil, false
	}
	return c, true
}

// some returns a circulation, and true; false if there is none.
func some(g api.Net) (*carried, bool) { return best(g, none(g)) }
