package bound

import (
	"couchant/api"
	"couchant/fell"
	"couchant/flow"
)

// histories are the circulations of a net, of which the value of a figure with these weights is asked.
type histories struct {
	api.Net
	weights []int
}

// ask returns the histories by the reports that count, of which a figure is asked; it does not say whether there are any.
func ask(f api.Fell, l []api.Report, known int, x api.Figure) (histories, api.Errno) {
	net, e := fell.NetOf(f, l, known, x.Owner, x.Sort)
	if e != api.OK {
		return histories{}, e
	}
	weights, e := Weights(f, x)
	if e != api.OK {
		return histories{}, e
	}
	return histories{net, weights}, api.OK
}

// opposite returns the weights that turn the least value into the greatest one.
func (h histories) opposite() []int {
	var weights []int
	for _, w := range h.weights {
		weights = append(weights, -w)
	}
	return weights
}

// end is the least or the greatest value of a figure, a history in which it has this value, and potentials that show it.
type end struct {
	value               int
	history, potentials []int
}

// least returns the low end, and whether there are histories.
func (h histories) least() (end, bool) {
	n, x, p, e := flow.Least(h.Net, h.weights)
	return end{n, x, p}, e == api.OK
}

// greatest returns the high end, and whether there are histories.
func (h histories) greatest() (end, bool) {
	n, x, p, e := flow.Greatest(h.Net, h.weights)
	return end{n, x, p}, e == api.OK
}

// finder returns what finds the high end, or the low one.
func (h histories) finder(upper bool) func() (end, bool) {
	if upper {
		return h.greatest
	}
	return h.least
}

// ends returns the low end and the high one, and whether there are histories.
func (h histories) ends() ([2]end, bool) {
	var ends [2]end
	for i, find := range [2]func() (end, bool){h.least, h.greatest} {
		found, is := find()
		if !is {
			return [2]end{}, false
		}
		ends[i] = found
	}
	return ends, true
}

// rests returns the Ids of the reports on which rests what potentials show of the high end, or of the low one.
func (h histories) rests(potentials []int, upper bool) []int {
	weights := h.weights
	if !upper {
		weights = h.opposite()
	}
	ids, _ := flow.Records(h.Net, weights, potentials)
	return ids
}

// isBest tells whether amounts are a history, and potentials show that none has a greater sum of weights. Lists that are no amounts or potentials are no proof.
func (h histories) isBest(weights, amounts, potentials []int) bool {
	is, _ := flow.CheckBest(h.Net, weights, amounts, potentials)
	return is
}

// has tells whether amounts are a history.
func (h histories) has(amounts []int) bool {
	is, _ := flow.Kept(h.Net, amounts)
	return is
}

// value returns that of the figure in a history.
func (h histories) value(history []int) int {
	n, _ := flow.Sum(h.Net, h.weights, history)
	return n
}
