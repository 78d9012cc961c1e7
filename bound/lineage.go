package bound

import (
	"slices"

	"couchant/api"
	"couchant/fell"
	"couchant/flow"
)

// evidence is the reports that count of an owner and a sort.
type evidence struct {
	fell    api.Fell
	owner   int
	sort    string
	reports []api.Report
}

func evidenceOf(f api.Fell, l []api.Report, known, owner int, sort string) (evidence, api.Errno) {
	// The network has all that can be wrong with these arguments.
	if _, e := fell.NetOf(f, l, known, owner, sort); e != api.OK {
		return evidence{}, e
	}
	counting, e := fell.Counting(f, l, known)
	if e != api.OK {
		return evidence{}, e
	}
	others := func(x api.Report) bool { return x.Owner != owner || x.Sort != sort }
	return evidence{f, owner, sort, slices.DeleteFunc(counting, others)}, api.OK
}

// net returns the network by some of the reports alone. They are a log, and no day is too early for them to count: there is no void among them.
func (v evidence) net(some []api.Report) api.Net {
	net, _ := fell.NetOf(v.fell, some, api.MaxDay, v.owner, v.sort)
	return net
}

// idsOf returns the Ids of reports, ascending.
func idsOf(some []api.Report) []int {
	var ids []int
	for _, x := range some {
		ids = append(ids, x.Id)
	}
	slices.Sort(ids)
	return ids
}

// only returns the network by the reports with some Ids alone, and true; false if these are not strictly ascending, or not all of them have a report.
func (v evidence) only(ids []int) (api.Net, bool) {
	others := func(x api.Report) bool { return !slices.Contains(ids, x.Id) }
	some := slices.DeleteFunc(slices.Clone(v.reports), others)
	return v.net(some), slices.Equal(idsOf(some), ids)
}

// needed returns the Ids, ascending, of the reports that are left if, from the last one to the first one, each is left out without which the others still show something. What shows tells whether a network does, and on which reports that rests: without another one it is shown as before, and need not be sought anew.
func (v evidence) needed(shows func(api.Net) ([]int, bool)) []int {
	left := v.reports
	rests, _ := shows(v.net(left))
	for i := len(left) - 1; i >= 0; i-- {
		id := left[i].Id
		fewer := slices.Delete(slices.Clone(left), i, i+1)
		if !slices.Contains(rests, id) {
			left = fewer
		} else if others, still := shows(v.net(fewer)); still {
			left, rests = fewer, others
		}
	}
	return idsOf(left)
}

// Lineage returns the Ids of the reports on which the high end or the low end of a figure rests.
func Lineage(f api.Fell, l []api.Report, known int, x api.Figure, upper bool) ([]int, api.Errno) {
	h, e := ask(f, l, known, x)
	if e != api.OK {
		return nil, e
	}
	whole, is := h.finder(upper)()
	if !is {
		return nil, api.ErrDoubt
	}
	v, e := evidenceOf(f, l, known, x.Owner, x.Sort)
	if e != api.OK {
		return nil, e
	}
	return v.needed(func(net api.Net) ([]int, bool) {
		alone := histories{net, h.weights}
		found, is := alone.finder(upper)()
		return alone.rests(found.potentials, upper), is && found.value == whole.value
	}), api.OK
}

// CheckLineage tells whether reports that count, and agree, hold an end of a figure alone.
func CheckLineage(f api.Fell, l []api.Report, known int, x api.Figure, upper bool, end int, ids []int) (bool, api.Errno) {
	h, e := ask(f, l, known, x)
	if e != api.OK {
		return false, e
	}
	v, e := evidenceOf(f, l, known, x.Owner, x.Sort)
	if e != api.OK {
		return false, e
	}
	net, is := v.only(ids)
	if !is {
		return false, api.OK
	}
	found, is := histories{net, h.weights}.finder(upper)()
	if upper {
		return is && found.value <= end, api.OK
	}
	return is && found.value >= end, api.OK
}

// contradiction tells whether there are no histories, and on which reports that rests.
func contradiction(net api.Net) ([]int, bool) {
	o, is, _ := flow.Obstacle(net)
	if !is {
		return nil, false
	}
	ids, _ := flow.ObstacleRecords(net, o)
	return ids, true
}

// Doubt returns the Ids of reports that contradict each other, and true; false if all agree.
func Doubt(f api.Fell, l []api.Report, known, owner int, sort string) ([]int, bool, api.Errno) {
	v, e := evidenceOf(f, l, known, owner, sort)
	if e != api.OK {
		return nil, false, e
	}
	if _, is := contradiction(v.net(v.reports)); !is {
		return nil, false, api.OK
	}
	return v.needed(contradiction), true, api.OK
}

// CheckDoubt tells whether reports that count contradict each other alone.
func CheckDoubt(f api.Fell, l []api.Report, known, owner int, sort string, ids []int) (bool, api.Errno) {
	v, e := evidenceOf(f, l, known, owner, sort)
	if e != api.OK {
		return false, e
	}
	net, is := v.only(ids)
	if !is {
		return false, api.OK
	}
	_, is = contradiction(net)
	return is, api.OK
}

// Reached returns the ticks at which the ends of the number on the fell are others by a report more.
func Reached(f api.Fell, l []api.Report, known int, r api.Report) ([]int, api.Errno) {
	longer, e := fell.Append(f, l, r)
	if e != api.OK {
		return nil, e
	}
	if r.Kind == api.ReportVoid || r.Known > known {
		return nil, api.ErrArg
	}
	before, e := Table(f, l, known, r.Owner, r.Sort)
	if e != api.OK {
		return nil, e
	}
	after, e := Table(f, longer, known, r.Owner, r.Sort)
	if e != api.OK {
		return nil, e
	}
	return differing(before, after), api.OK
}

// Turned returns the ticks at which the ends of the number on the fell are others on one day of knowledge than on another one.
func Turned(f api.Fell, l []api.Report, from, to, owner int, sort string) ([]int, api.Errno) {
	before, e := Table(f, l, from, owner, sort)
	if e != api.OK {
		return nil, e
	}
	after, e := Table(f, l, to, owner, sort)
	if e != api.OK {
		return nil, e
	}
	return differing(before, after), api.OK
}
