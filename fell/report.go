package fell

import (
	"iter"
	"maps"
	"slices"

	"couchant/api"
)

func isOwner(n int) bool { return within(n, 1, api.MaxOwner) }

func isVoid(x api.Report) bool {
	return within(x.Of, 1, api.MaxId) && x == api.Report{Id: x.Id, Known: x.Known, Kind: api.ReportVoid, Of: x.Of}
}

// tells tells whether a report has all that one has which is no void, wherever it is.
func tells(f api.Fell, x api.Report) bool {
	last := f.Ticks - 1
	if x.Kind == api.ReportStay {
		last = f.Ticks
	}
	return within(int(x.Kind), int(api.ReportStay), int(api.ReportSold)) && isOwner(x.Owner) && isName(x.Sort) &&
		within(x.Tick, 0, last) && within(x.Low, 0, x.High) && x.High <= api.MaxHerd && x.Of == 0
}

// checkReport returns why a report of a valid fell is not right.
func checkReport(f api.Fell, x api.Report) api.Errno {
	switch {
	case !within(x.Id, 1, api.MaxId) || !within(x.Known, 0, api.MaxDay) || !isVoid(x) && !tells(f, x):
		return api.ErrArg
	case x.Kind != api.ReportVoid && !within(x.At, 0, len(kinds()[x.Kind].names(f))-1):
		return api.ErrPlace
	}
	return api.OK
}

// CheckReport returns why a report is not right.
func CheckReport(f api.Fell, x api.Report) api.Errno {
	if e := CheckFell(f); e != api.OK {
		return e
	}
	return checkReport(f, x)
}

// refusal returns why a report cannot stand behind those of a log of a valid fell.
func refusal(f api.Fell, log []api.Report, x api.Report) api.Errno {
	if len(log) == api.MaxReports {
		return api.ErrLimit
	}
	if e := checkReport(f, x); e != api.OK {
		return e
	}
	switch {
	case slices.ContainsFunc(log, func(y api.Report) bool { return y.Id == x.Id }):
		return api.ErrTwice
	case len(log) > 0 && x.Known < log[len(log)-1].Known:
		return api.ErrTime
	case x.Kind != api.ReportVoid:
		return api.OK
	case !slices.ContainsFunc(log, func(y api.Report) bool { return y.Id == x.Of && y.Kind != api.ReportVoid }):
		return api.ErrNone
	case slices.ContainsFunc(log, func(y api.Report) bool { return y.Of == x.Of }):
		return api.ErrTwice
	}
	return api.OK
}

// Check returns the index of the first report that a log cannot have there, and why.
func Check(f api.Fell, l []api.Report) (int, api.Errno) {
	if e := CheckFell(f); e != api.OK {
		return 0, e
	}
	for i, x := range l {
		if e := refusal(f, l[:i], x); e != api.OK {
			return i, e
		}
	}
	return 0, api.OK
}

// checkLog returns why a list is no log of a valid fell.
func checkLog(f api.Fell, l []api.Report) api.Errno {
	_, e := Check(f, l)
	return e
}

// Append returns a log with one report more.
func Append(f api.Fell, l []api.Report, x api.Report) ([]api.Report, api.Errno) {
	longer := append(slices.Clone(l), x)
	// What is wrong with the log itself is found in the longer one first.
	if e := checkLog(f, longer); e != api.OK {
		return nil, e
	}
	return longer, api.OK
}

// counting yields the reports of a log that count on a day of knowledge, in its order, without voids.
func counting(l []api.Report, known int) iter.Seq[api.Report] {
	return func(yield func(api.Report) bool) {
		void := map[int]bool{}
		for _, x := range l {
			if x.Kind == api.ReportVoid && x.Known <= known {
				void[x.Of] = true
			}
		}
		for _, x := range l {
			if x.Kind != api.ReportVoid && x.Known <= known && !void[x.Id] && !yield(x) {
				return
			}
		}
	}
}

// Counting returns the reports that count on a day of knowledge, without voids, in the order of the log.
func Counting(f api.Fell, l []api.Report, known int) ([]api.Report, api.Errno) {
	if e := checkLog(f, l); e != api.OK {
		return nil, e
	}
	return slices.Collect(counting(l, known)), api.OK
}

// Owners returns the owners of whom reports that count speak, ascending.
func Owners(f api.Fell, l []api.Report, known int) ([]int, api.Errno) {
	if e := checkLog(f, l); e != api.OK {
		return nil, e
	}
	owners := map[int]bool{}
	for x := range counting(l, known) {
		owners[x.Owner] = true
	}
	return slices.Sorted(maps.Keys(owners)), api.OK
}

// Sorts returns the sorts of which reports that count speak for an owner, ascending.
func Sorts(f api.Fell, l []api.Report, known, owner int) ([]string, api.Errno) {
	if e := checkLog(f, l); e != api.OK {
		return nil, e
	}
	sorts := map[string]bool{}
	for x := range counting(l, known) {
		if x.Owner == owner {
			sorts[x.Sort] = true
		}
	}
	return slices.Sorted(maps.Keys(sorts)), api.OK
}
