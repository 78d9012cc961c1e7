package bound

import (
	"couchant/api"
	"couchant/fell"
	"couchant/flow"
)

// endsOf returns the low end and the high one of a figure.
func endsOf(f api.Fell, l []api.Report, known int, x api.Figure) ([2]end, api.Errno) {
	h, e := ask(f, l, known, x)
	if e != api.OK {
		return [2]end{}, e
	}
	ends, is := h.ends()
	if !is {
		return [2]end{}, api.ErrDoubt
	}
	return ends, api.OK
}

// Ends returns the least and the greatest value of a figure.
func Ends(f api.Fell, l []api.Report, known int, x api.Figure) (low, high int, e api.Errno) {
	ends, e := endsOf(f, l, known, x)
	return ends[0].value, ends[1].value, e
}

// Table returns the ends of the number on the fell at each tick.
func Table(f api.Fell, l []api.Report, known, owner int, sort string) ([]api.Pair, api.Errno) {
	net, e := fell.NetOf(f, l, known, owner, sort)
	if e != api.OK {
		return nil, e
	}
	var table []api.Pair
	for tick := range f.Ticks + 1 {
		weights, e := fell.OnFell(f, tick)
		if e != api.OK {
			return nil, e
		}
		ends, is := histories{net, weights}.ends()
		if !is {
			return nil, api.ErrDoubt
		}
		table = append(table, api.Pair{A: ends[0].value, B: ends[1].value})
	}
	return table, api.OK
}

// Bounds returns the ends of a figure, with histories and potentials that show them.
func Bounds(f api.Fell, l []api.Report, known int, x api.Figure) (api.Bounds, api.Errno) {
	ends, e := endsOf(f, l, known, x)
	if e != api.OK {
		return api.Bounds{}, e
	}
	low, high := ends[0], ends[1]
	return api.Bounds{
		Low: low.value, Least: low.history, Lower: low.potentials,
		High: high.value, Greatest: high.history, Upper: high.potentials,
	}, api.OK
}

// CheckBounds tells whether bounds show what they say.
func CheckBounds(f api.Fell, l []api.Report, known int, x api.Figure, b api.Bounds) (bool, api.Errno) {
	h, e := ask(f, l, known, x)
	if e != api.OK {
		return false, e
	}
	high := h.isBest(h.weights, b.Greatest, b.Upper) && h.value(b.Greatest) == b.High
	low := h.isBest(h.opposite(), b.Least, b.Lower) && h.value(b.Least) == b.Low
	return high && low, api.OK
}

// Through returns a history in which a figure of one place has a value, and true; false if there is none.
func Through(f api.Fell, l []api.Report, known int, x api.Figure, n int) ([]int, bool, api.Errno) {
	h, e := ask(f, l, known, x)
	if e != api.OK {
		return nil, false, e
	}
	arc, e := fell.NumberArc(f, x.Place, x.Tick)
	if e != api.OK {
		return nil, false, e
	}
	return flow.Through(h.Net, arc, n)
}

// Heads returns the low ends and the high ends of the numbers on the fell at a tick, of each sort of which reports tell.
func Heads(f api.Fell, l []api.Report, known, owner, tick int) (low, high []api.Head, e api.Errno) {
	sorts, e := fell.Sorts(f, l, known, owner)
	if e != api.OK {
		return nil, nil, e
	}
	if !within(owner, 1, api.MaxOwner) || !within(tick, 0, f.Ticks) {
		return nil, nil, api.ErrArg
	}
	for _, sort := range sorts {
		least, most, e := Ends(f, l, known, api.Figure{Owner: owner, Sort: sort, Place: api.AllPlaces, Tick: tick})
		if e != api.OK {
			return nil, nil, e
		}
		low = append(low, api.Head{Sort: sort, Number: least})
		high = append(high, api.Head{Sort: sort, Number: most})
	}
	return low, high, api.OK
}
