package flow

import "couchant/api"

// aim is a net of which one arc is to carry as little or as much as it can.
type aim struct {
	api.Net
	arc int
}

// amount returns that of the arc in a circulation that is best if this arc alone has a weight, and whether there is one.
func (a aim) amount(weight int) (int, bool) {
	weights := none(a.Net)
	weights[a.arc] = weight
	c, is := best(a.Net, weights)
	if !is {
		return 0, false
	}
	return c.amounts[a.arc], true
}

func (a aim) least() (int, bool) { return a.amount(-1) }

func (a aim) greatest() (int, bool) { return a.amount(1) }

// Range returns the least and the greatest amount of an arc in all circulations.
func Range(g api.Net, arc int) (low, high int, e api.Errno) {
	if e := check(g, isArc(g, arc)); e != api.OK {
		return 0, 0, e
	}
	a := aim{g, arc}
	var ends [2]int
	for i, end := range []func() (int, bool){a.least, a.greatest} {
		amount, is := end()
		if !is {
			return 0, 0, api.ErrCut
		}
		ends[i] = amount
	}
	return ends[0], ends[1], api.OK
}

// Through returns a circulation in which an arc has an amount, and true; false if there is none.
func Through(g api.Net, arc, amount int) ([]int, bool, api.Errno) {
	if e := check(g, isArc(g, arc)); e != api.OK {
		return nil, false, e
	}
	if a := g.Arcs[arc]; !within(amount, a.Low, a.High) {
		return nil, false, api.OK
	}
	c, is := some(narrowed(g, arc, amount, amount, 0))
	if !is {
		return nil, false, api.OK
	}
	return c.amounts, true, api.OK
}

// Fixed returns the arcs that have one amount alone in all circulations.
func Fixed(g api.Net) ([]int, api.Errno) {
	if e := Check(g); e != api.OK {
		return nil, e
	}
	c, is := some(g)
	if !is {
		return nil, api.ErrCut
	}
	var arcs []int
	for i := range c.Arcs {
		if !c.canChange(i) {
			arcs = append(arcs, i)
		}
	}
	return arcs, api.OK
}

// canChange tells whether an arc of a circulation can carry a unit more or less, which then goes round over other arcs.
func (c *carried) canChange(arc int) bool {
	a, x := c.Arcs[arc], c.amounts[arc]
	return x < a.High && c.reached(a.To, a.From, arc)[a.From] || x > a.Low && c.reached(a.From, a.To, arc)[a.To]
}

// Reach returns the nodes to which a unit more can be led from a node.
func Reach(g api.Net, x []int, from int) ([]int, api.Errno) {
	if e := check(g, isAmounts(g, x), isNode(g, from)); e != api.OK {
		return nil, e
	}
	if !circulates(g, x) {
		return nil, api.ErrCut
	}
	c := carry(g, none(g), x)
	var nodes []int
	is := c.reached(from, -1, -1)
	for node := range c.N {
		if is[node] {
			nodes = append(nodes, node)
		}
	}
	return nodes, api.OK
}
