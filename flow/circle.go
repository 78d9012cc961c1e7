package flow

import "couchant/api"

// Circles returns circles which add up to a circulation.
func Circles(g api.Net, x []int) ([]api.Circle, api.Errno) {
	if e := check(g, isAmounts(g, x)); e != api.OK {
		return nil, e
	}
	if !circulates(g, x) {
		return nil, api.ErrCut
	}
	// All that the circulation carries is room for circles.
	rooms := api.Net{N: g.N, Arcs: copied(g.Arcs)}
	for i := range rooms.Arcs {
		rooms.Arcs[i].Low, rooms.Arcs[i].High = 0, x[i]
	}
	c := carry(rooms, none(g), none(g))
	var circles []api.Circle
	for node := range c.N {
		for {
			circle, is := c.circle(node)
			if !is {
				break
			}
			for _, arc := range circle.Arcs {
				c.amounts[arc] += circle.Amount
			}
			circles = append(circles, circle)
		}
	}
	return circles, api.OK
}

// onward returns the first step from a node along an arc that has room, and whether there is one.
func (c *carried) onward(node int) (step, bool) {
	for s := range c.steps(node) {
		if s.way > 0 {
			return s, true
		}
	}
	return step{}, false
}

// circle returns the circle, filled, to which arcs that have room lead from a node, and whether there is one.
func (c *carried) circle(node int) (api.Circle, bool) {
	var before [api.MaxNodes]int
	var walk []step
	for {
		s, is := c.onward(node)
		if !is {
			return api.Circle{}, false
		}
		if before[node] > 0 {
			break
		}
		walk = append(walk, s)
		before[node] = len(walk)
		node = s.to
	}
	var arcs []int
	amount := api.MaxAmount
	for _, s := range walk[before[node]-1:] {
		arcs = append(arcs, s.arc)
		amount = min(amount, s.room)
	}
	return api.Circle{Arcs: arcs, Amount: amount}, true
}

// isCircle tells whether arcs lead round, and come to no node twice.
func isCircle(g api.Net, c api.Circle) bool {
	if len(c.Arcs) == 0 || !every(c.Arcs, func(arc int) bool { return isArc(g, arc) }) {
		return false
	}
	var left [api.MaxNodes]bool
	at := g.Arcs[c.Arcs[len(c.Arcs)-1]].To
	for _, arc := range c.Arcs {
		a := g.Arcs[arc]
		if a.From != at || left[at] {
			return false
		}
		left[at] = true
		at = a.To
	}
	return within(c.Amount, 1, api.MaxAmount)
}

// FromCircles returns what all arcs carry by some circles.
func FromCircles(g api.Net, l []api.Circle) ([]int, api.Errno) {
	if e := Check(g); e != api.OK {
		return nil, e
	}
	if len(l) > api.MaxArcs {
		return nil, api.ErrLimit
	}
	if !every(l, func(c api.Circle) bool { return isCircle(g, c) }) {
		return nil, api.ErrArg
	}
	x := none(g)
	for _, c := range l {
		for _, arc := range c.Arcs {
			x[arc] += c.Amount
		}
	}
	if !every(x, isAmount) {
		return nil, api.ErrLimit
	}
	return x, api.OK
}
