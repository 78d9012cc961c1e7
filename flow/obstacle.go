package flow

import (
	"slices"

	"couchant/api"
)

// Some returns a circulation.
func Some(g api.Net) ([]int, api.Errno) {
	if e := Check(g); e != api.OK {
		return nil, e
	}
	c, is := some(g)
	if !is {
		return nil, api.ErrCut
	}
	return c.amounts, api.OK
}

// Obstacle returns why there is no circulation, and true; false if there is one.
func Obstacle(g api.Net) (api.Obstacle, bool, api.Errno) {
	if e := Check(g); e != api.OK {
		return api.Obstacle{}, false, e
	}
	if arc := crossed(g); arc >= 0 {
		return api.Obstacle{Arc: arc}, true, api.OK
	}
	c := greedy(g, none(g))
	if c.settle() {
		return api.Obstacle{}, false, api.OK
	}
	return api.Obstacle{Arc: -1, Nodes: c.starved()}, true, api.OK
}

// starved returns the nodes to which nothing can be led of what others get too much: all arcs from them carry their Lows, and all arcs to them their Highs, and yet they give more than they get.
func (c *carried) starved() []int {
	distance := c.distances(c.getsMore)
	var nodes []int
	for node := range c.N {
		if distance[node] == beyond {
			nodes = append(nodes, node)
		}
	}
	return nodes
}

// border returns the arcs that lead out of some nodes, and those that lead into them.
func border(g api.Net, nodes []int) (out, in []api.Arc) {
	var among [api.MaxNodes]bool
	for _, node := range nodes {
		among[node] = true
	}
	for _, a := range g.Arcs {
		switch {
		case among[a.From] && !among[a.To]:
			out = append(out, a)
		case among[a.To] && !among[a.From]:
			in = append(in, a)
		}
	}
	return out, in
}

// isSet tells whether a list is some of the nodes, strictly ascending.
func isSet(g api.Net, nodes []int) bool {
	last := -1
	return every(nodes, func(node int) bool {
		before := last
		last = node
		return before < node && isNode(g, node)
	})
}

// isObstacle tells whether this is why a valid net has no circulation.
func isObstacle(g api.Net, o api.Obstacle) bool {
	if o.Arc != -1 {
		return isArc(g, o.Arc) && len(o.Nodes) == 0 && g.Arcs[o.Arc].Low > g.Arcs[o.Arc].High
	}
	if !isSet(g, o.Nodes) {
		return false
	}
	out, in := border(g, o.Nodes)
	missing := 0
	for _, a := range out {
		missing += a.Low
	}
	for _, a := range in {
		missing -= a.High
	}
	return missing > 0
}

// CheckObstacle tells whether this is why there is no circulation.
func CheckObstacle(g api.Net, o api.Obstacle) (bool, api.Errno) {
	if e := Check(g); e != api.OK {
		return false, e
	}
	return isObstacle(g, o), api.OK
}

// recordsAmong returns what is a record among some Ids, ascending, each once.
func recordsAmong(ids []int) []int {
	ids = slices.DeleteFunc(ids, func(id int) bool { return id == 0 })
	slices.Sort(ids)
	return slices.Compact(ids)
}

// ObstacleRecords returns the records on which an obstacle rests.
func ObstacleRecords(g api.Net, o api.Obstacle) ([]int, api.Errno) {
	if e := Check(g); e != api.OK {
		return nil, e
	}
	if !isObstacle(g, o) {
		return nil, api.ErrArg
	}
	if o.Arc >= 0 {
		return recordsAmong([]int{g.Arcs[o.Arc].LowBy, g.Arcs[o.Arc].HighBy}), api.OK
	}
	var ids []int
	out, in := border(g, o.Nodes)
	for _, a := range out {
		if a.Low > 0 {
			ids = append(ids, a.LowBy)
		}
	}
	for _, a := range in {
		ids = append(ids, a.HighBy)
	}
	return recordsAmong(ids), api.OK
}
