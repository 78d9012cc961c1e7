package flow

import "couchant/api"

// narrowed returns a net in which an arc carries from low to high at most, by a record where this is less than it did.
func narrowed(g api.Net, arc, low, high, record int) api.Net {
	g.Arcs = copied(g.Arcs)
	a := &g.Arcs[arc]
	if low > a.Low {
		a.Low, a.LowBy = low, record
	}
	if high < a.High {
		a.High, a.HighBy = high, record
	}
	return g
}

// Narrow returns a net in which an arc carries from low to high at most, by a record.
func Narrow(g api.Net, arc, low, high, record int) (api.Net, api.Errno) {
	if e := check(g, isArc(g, arc), isAmount(low), isAmount(high), isBy(record)); e != api.OK {
		return api.Net{}, e
	}
	return narrowed(g, arc, low, high, record), api.OK
}

// Without returns a net as if there were no such record.
func Without(g api.Net, record int) (api.Net, api.Errno) {
	if e := check(g, within(record, 1, api.MaxId)); e != api.OK {
		return api.Net{}, e
	}
	g.Arcs = copied(g.Arcs)
	for i := range g.Arcs {
		a := &g.Arcs[i]
		if a.LowBy == record {
			a.Low, a.LowBy = 0, 0
		}
		if a.HighBy == record {
			a.High, a.HighBy = api.MaxAmount, 0
		}
	}
	return g, api.OK
}

// Join returns the net with the arcs of both.
func Join(g, h api.Net) (api.Net, api.Errno) {
	if e := Check(g); e != api.OK {
		return api.Net{}, e
	}
	if e := check(h, g.N == h.N); e != api.OK {
		return api.Net{}, e
	}
	if len(g.Arcs)+len(h.Arcs) > api.MaxArcs {
		return api.Net{}, api.ErrLimit
	}
	g.Arcs = append(copied(g.Arcs), h.Arcs...)
	return g, api.OK
}
