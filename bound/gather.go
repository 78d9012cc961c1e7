package bound

import (
	"cmp"
	"iter"
	"slices"

	"couchant/api"
	"couchant/fell"
	"couchant/flow"
)

// maxCost is how much a gathering can cost.
const maxCost = 100000

// CheckGatherings returns why gatherings are none.
func CheckGatherings(f api.Fell, g []api.Gathering) api.Errno {
	if e := fell.CheckFell(f); e != api.OK {
		return e
	}
	if len(g) > api.MaxGathered {
		return api.ErrLimit
	}
	for _, x := range g {
		_, e := fell.NumberArc(f, x.Place, x.Tick)
		if !within(x.Cost, 0, maxCost) {
			e = api.ErrArg
		}
		if e != api.OK {
			return e
		}
	}
	return api.OK
}

// outcome is the numbers that a set of gatherings finds, in its order.
type outcome [api.MaxGathered]int

// survey is histories, and the arcs whose amounts a set of gatherings finds.
type survey struct {
	histories
	arcs []int
}

// surveyOf returns that of a set; it does not say whether there are histories.
func surveyOf(f api.Fell, l []api.Report, known int, x api.Figure, g []api.Gathering, set []int) (survey, api.Errno) {
	h, e := ask(f, l, known, x)
	if e != api.OK {
		return survey{}, e
	}
	if e := CheckGatherings(f, g); e != api.OK {
		return survey{}, e
	}
	if !ascends(set) || len(set) > 0 && (set[0] < 0 || set[len(set)-1] >= len(g)) {
		return survey{}, api.ErrArg
	}
	s := survey{histories: h}
	for _, i := range set {
		arc, e := fell.NumberArc(f, g[i].Place, g[i].Tick)
		if e != api.OK {
			return survey{}, e
		}
		s.arcs = append(s.arcs, arc)
	}
	return s, api.OK
}

// with returns the survey of the histories that have the first numbers of an outcome, so many.
func (s survey) with(o outcome, size int) survey {
	for i, arc := range s.arcs[:size] {
		s.Net, _ = flow.Narrow(s.Net, arc, o[i], o[i], 0)
	}
	return s
}

// endsBy returns the ends of the figure in the histories that have an outcome.
func (s survey) endsBy(o outcome) [2]end {
	ends, _ := s.with(o, len(s.arcs)).ends()
	return ends
}

// outcomes returns all outcomes, in ascending order.
func (s survey) outcomes() ([]outcome, api.Errno) {
	if _, e := flow.Some(s.Net); e != api.OK {
		return nil, api.ErrDoubt
	}
	var all []outcome
	var seek func(o outcome, at int)
	// seek goes on from the first numbers of an outcome. Each number from the least to the greatest one that can follow is that of some history, so none of its ways is in vain.
	seek = func(o outcome, at int) {
		if at == len(s.arcs) {
			all = append(all, o)
			return
		}
		low, high, _ := flow.Range(s.with(o, at).Net, s.arcs[at])
		for n := low; n <= high && len(all) <= api.MaxOutcomes; n++ {
			o[at] = n
			seek(o, at+1)
		}
	}
	seek(outcome{}, 0)
	if len(all) > api.MaxOutcomes {
		return nil, api.ErrLimit
	}
	return all, api.OK
}

// Outcomes returns all outcomes of a set, in ascending order.
func Outcomes(f api.Fell, l []api.Report, known int, x api.Figure, g []api.Gathering, set []int) ([][]int, api.Errno) {
	s, e := surveyOf(f, l, known, x, g, set)
	if e != api.OK {
		return nil, e
	}
	all, e := s.outcomes()
	if e != api.OK {
		return nil, e
	}
	var lists [][]int
	for _, o := range all {
		lists = append(lists, slices.Clone(o[:len(set)]))
	}
	return lists, api.OK
}

// Decides tells whether a set decides whether a figure is greater than a limit.
func Decides(f api.Fell, l []api.Report, known int, x api.Figure, limit int, g []api.Gathering, set []int) (bool, api.Errno) {
	_, is, e := Witness(f, l, known, x, limit, g, set)
	return e == api.OK && !is, e
}

// Witness returns two histories with one outcome, in the first of which a figure is greater than a limit, and in the second one not, and true; false if the set decides it.
func Witness(f api.Fell, l []api.Report, known int, x api.Figure, limit int, g []api.Gathering, set []int) (api.Split, bool, api.Errno) {
	s, e := surveyOf(f, l, known, x, g, set)
	if e != api.OK {
		return api.Split{}, false, e
	}
	all, e := s.outcomes()
	if e != api.OK {
		return api.Split{}, false, e
	}
	for _, o := range all {
		ends := s.endsBy(o)
		if sidesOf(ends, limit).both() {
			return api.Split{One: ends[1].history, Two: ends[0].history}, true, api.OK
		}
	}
	return api.Split{}, false, api.OK
}

// CheckWitness tells whether two lists show that a set does not decide whether a figure is greater than a limit.
func CheckWitness(f api.Fell, l []api.Report, known int, x api.Figure, limit int, g []api.Gathering, set []int, w api.Split) (bool, api.Errno) {
	s, e := surveyOf(f, l, known, x, g, set)
	if e != api.OK {
		return false, e
	}
	if !s.has(w.One) || !s.has(w.Two) {
		return false, api.OK
	}
	same := !slices.ContainsFunc(s.arcs, func(arc int) bool { return w.One[arc] != w.Two[arc] })
	return same && s.value(w.One) > limit && s.value(w.Two) <= limit, api.OK
}

// sides is whether a figure is greater than a limit in some history, and whether it is not in some.
type sides struct{ greater, not bool }

func sidesOf(ends [2]end, limit int) sides {
	return sides{greater: ends[1].value > limit, not: ends[0].value <= limit}
}

func (s sides) both() bool { return s.greater && s.not }

// or returns what is so in some of the histories of both.
func (s sides) or(t sides) sides { return sides{s.greater || t.greater, s.not || t.not} }

// subsets yields all strictly ascending lists of numbers from 0 to below size.
func subsets(size int) iter.Seq[[]int] {
	return func(yield func([]int) bool) {
		for members := range 1 << size {
			var set []int
			for i := range size {
				if members>>i&1 == 1 {
					set = append(set, i)
				}
			}
			if !yield(set) {
				return
			}
		}
	}
}

// errandOf returns a set with its cost.
func errandOf(g []api.Gathering, set []int) api.Errand {
	x := api.Errand{Set: set}
	for _, i := range set {
		x.Cost += g[i].Cost
	}
	return x
}

// isBefore tells whether an errand is better than another one.
func isBefore(x, y api.Errand) bool {
	return cmp.Or(cmp.Compare(x.Cost, y.Cost), cmp.Compare(len(x.Set), len(y.Set)), slices.Compare(x.Set, y.Set)) < 0
}

// of returns what a set of the gatherings finds when all of them find the outcome.
func (o outcome) of(set []int) outcome {
	var part outcome
	for _, i := range set {
		part[i] = o[i]
	}
	return part
}

// cheapest returns the best set of gatherings that decides, and whether there is one, by all outcomes of all gatherings and what each of them shows.
func cheapest(g []api.Gathering, all []outcome, shown []sides) (api.Errand, bool) {
	var best api.Errand
	found := false
search:
	for set := range subsets(len(g)) {
		errand := errandOf(g, set)
		if found && !isBefore(errand, best) {
			continue
		}
		// An outcome of the set shows what all outcomes do of which it is a part.
		parts := map[outcome]sides{}
		for i, o := range all {
			part := o.of(set)
			parts[part] = parts[part].or(shown[i])
			if parts[part].both() {
				continue search
			}
		}
		best, found = errand, true
	}
	return best, found
}

// Cheapest returns the best set that decides whether a figure is greater than a limit.
func Cheapest(f api.Fell, l []api.Report, known int, x api.Figure, limit int, g []api.Gathering) (api.Errand, api.Errno) {
	var whole []int
	for i := range g {
		whole = append(whole, i)
	}
	s, e := surveyOf(f, l, known, x, g, whole)
	if e != api.OK {
		return api.Errand{}, e
	}
	all, e := s.outcomes()
	if e != api.OK {
		return api.Errand{}, e
	}
	var shown []sides
	for _, o := range all {
		shown = append(shown, sidesOf(s.endsBy(o), limit))
	}
	best, found := cheapest(g, all, shown)
	if !found {
		return api.Errand{}, api.ErrFar
	}
	return best, api.OK
}
