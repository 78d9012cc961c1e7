package fell

import "couchant/api"

// checkHistory returns why a fell is not valid, or amounts cannot be those of a history.
func checkHistory(f api.Fell, x []int) api.Errno {
	if e := CheckFell(f); e != api.OK {
		return e
	}
	if len(x) != Arcs(f) || !every(x, func(n int) bool { return within(n, 0, api.MaxHerd) }) {
		return api.ErrArg
	}
	return api.OK
}

// OnFell returns weights for all arcs: 1 for the numbers of the heafs at a tick, 0 for all others.
func OnFell(f api.Fell, tick int) ([]int, api.Errno) {
	if e := checkTick(f, tick); e != api.OK {
		return nil, e
	}
	var weights []int
	for _, s := range network(f).spots() {
		weight := 0
		if s.kind == api.ReportStay && s.tick == tick && f.Places[s.at].Kind == api.PlaceHeaf {
			weight = 1
		}
		weights = append(weights, weight)
	}
	return weights, api.OK
}

// At returns the number at a place at a tick in a history.
func At(f api.Fell, x []int, place, tick int) (int, api.Errno) {
	if e := checkHistory(f, x); e != api.OK {
		return 0, e
	}
	arc, e := NumberArc(f, place, tick)
	if e != api.OK {
		return 0, e
	}
	return x[arc], api.OK
}

// Present returns the number on the fell at a tick in a history.
func Present(f api.Fell, x []int, tick int) (int, api.Errno) {
	if e := checkHistory(f, x); e != api.OK {
		return 0, e
	}
	weights, e := OnFell(f, tick)
	if e != api.OK {
		return 0, e
	}
	sum := 0
	for arc, weight := range weights {
		sum += weight * x[arc]
	}
	return sum, api.OK
}

// Keeps tells whether a history has the number that a report tells from its Low to its High.
func Keeps(f api.Fell, x []int, r api.Report) (bool, api.Errno) {
	arc, e := MoveArc(f, r)
	if e != api.OK {
		return false, e
	}
	if e := checkHistory(f, x); e != api.OK {
		return false, e
	}
	return within(x[arc], r.Low, r.High), api.OK
}
