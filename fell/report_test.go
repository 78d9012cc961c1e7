package fell_test

import (
	"slices"
	"strings"
	"testing"

	"couchant/api"
	"couchant/fell"
)

// goodReports returns right reports of the sample: one of each kind, and others at the ends of what they can have.
func goodReports() []api.Report {
	return []api.Report{
		{Id: 1, Kind: api.ReportStay, Owner: 1, Sort: "a"},
		{Id: 1000000, Known: 100000, Kind: api.ReportStay, Owner: 40, Sort: strings.Repeat("z", 24), At: 2, Tick: 2, Low: 1000, High: 1000},
		{Id: 2, Known: 1, Kind: api.ReportPass, Owner: 7, Sort: "sheep", At: 1, Tick: 1, Low: 0, High: 1000},
		{Id: 3, Known: 1, Kind: api.ReportBack, Owner: 7, Sort: "sheep", At: 0, Tick: 0, Low: 3, High: 3},
		{Id: 4, Known: 1, Kind: api.ReportBorn, Owner: 7, Sort: "sheep", At: 2, Tick: 1, Low: 51, High: 999},
		{Id: 5, Known: 1, Kind: api.ReportDead, Owner: 7, Sort: "sheep", At: 0, Tick: 1, High: 1},
		{Id: 6, Known: 1, Kind: api.ReportBought, Owner: 7, Sort: "sheep", At: 1, Tick: 0, High: 1},
		{Id: 7, Known: 1, Kind: api.ReportSold, Owner: 7, Sort: "sheep", At: 1, Tick: 1, Low: 2, High: 4},
		{Id: 8, Known: 1, Kind: api.ReportVoid, Of: 1},
		{Id: 8, Kind: api.ReportVoid, Of: 1000000},
	}
}

// badReport is a report that is not right.
type badReport struct {
	x api.Report
	e api.Errno
}

// badReports returns reports each of which is wrong in one thing, and some that are wrong in two.
func badReports() []badReport {
	var l []badReport
	change := func(e api.Errno, of api.Report, do func(x *api.Report)) {
		do(&of)
		l = append(l, badReport{of, e})
	}
	for _, good := range goodReports() {
		for _, id := range []int{0, -1, 1000001} {
			change(api.ErrArg, good, func(x *api.Report) { x.Id = id })
		}
		for _, known := range []int{-1, 100001} {
			change(api.ErrArg, good, func(x *api.Report) { x.Known = known })
		}
		for _, kind := range []uint8{0, 9, 10, 11, 12, 255} {
			change(api.ErrArg, good, func(x *api.Report) { x.Kind = kind })
		}
		if good.Kind == api.ReportVoid {
			for _, of := range []int{0, -1, 1000001} {
				change(api.ErrArg, good, func(x *api.Report) { x.Of = of })
			}
			change(api.ErrArg, good, func(x *api.Report) { x.Owner = 1 })
			change(api.ErrArg, good, func(x *api.Report) { x.Sort = "sheep" })
			change(api.ErrArg, good, func(x *api.Report) { x.At = 1 })
			change(api.ErrArg, good, func(x *api.Report) { x.At = 99 })
			change(api.ErrArg, good, func(x *api.Report) { x.Tick = 1 })
			change(api.ErrArg, good, func(x *api.Report) { x.Low = -1 })
			change(api.ErrArg, good, func(x *api.Report) { x.High = 1 })
			continue
		}
		for _, owner := range []int{0, -1, 41} {
			change(api.ErrArg, good, func(x *api.Report) { x.Owner = owner })
		}
		for _, sort := range []string{"", "Sheep", "1", "sheep ", strings.Repeat("a", 25)} {
			change(api.ErrArg, good, func(x *api.Report) { x.Sort = sort })
		}
		last := 1
		if good.Kind == api.ReportStay {
			last = 2
		}
		for _, tick := range []int{-1, last + 1, 24} {
			change(api.ErrArg, good, func(x *api.Report) { x.Tick = tick })
		}
		change(api.ErrArg, good, func(x *api.Report) { x.Low = -1 })
		change(api.ErrArg, good, func(x *api.Report) { x.Low = x.High + 1 })
		change(api.ErrArg, good, func(x *api.Report) { x.High = 1001 })
		change(api.ErrArg, good, func(x *api.Report) { x.Low, x.High = 1001, 1001 })
		change(api.ErrArg, good, func(x *api.Report) { x.Low, x.High = -1, -1 })
		change(api.ErrArg, good, func(x *api.Report) { x.Of = 1 })
		change(api.ErrArg, good, func(x *api.Report) { x.Of = -1 })
		size := 3
		if good.Kind == api.ReportPass || good.Kind == api.ReportBack {
			size = 2
		}
		for _, at := range []int{-1, size, size + 1, 12, 1 << 62} {
			change(api.ErrPlace, good, func(x *api.Report) { x.At = at })
			change(api.ErrArg, good, func(x *api.Report) { x.At, x.Tick = at, last+1 })
			change(api.ErrArg, good, func(x *api.Report) { x.At, x.Of = at, 1 })
		}
	}
	return l
}

// E4: single reports.
func TestCheckReport(t *testing.T) {
	f := sample(t)
	for _, x := range goodReports() {
		if e := fell.CheckReport(f, x); e != api.OK {
			t.Errorf("CheckReport(%v): error %d", x, e)
		}
	}
	for _, bad := range badReports() {
		if e := fell.CheckReport(f, bad.x); e != bad.e {
			t.Errorf("CheckReport(%v): error %d, want %d", bad.x, e, bad.e)
		}
		if i, e := fell.Check(f, []api.Report{{Id: 77, Kind: 1, Owner: 1, Sort: "a"}, bad.x}); i != 1 || e != bad.e {
			t.Errorf("Check with %v: %d, error %d, want %d", bad.x, i, e, bad.e)
		}
	}
	// A fell without gates.
	if e := fell.CheckReport(api.Fell{Ticks: 1, Places: places(1)}, api.Report{Id: 1, Kind: api.ReportPass, Owner: 1, Sort: "a"}); e != api.ErrPlace {
		t.Errorf("CheckReport of a gate that there is not: error %d", e)
	}
}

// E4: what a log cannot have where it is.
func TestCheck(t *testing.T) {
	f := sample(t)
	stay := func(id, known int) api.Report {
		return api.Report{Id: id, Known: known, Kind: api.ReportStay, Owner: 1, Sort: "a"}
	}
	void := func(id, known, of int) api.Report {
		return api.Report{Id: id, Known: known, Kind: api.ReportVoid, Of: of}
	}
	for _, c := range []struct {
		l  []api.Report
		at int
		e  api.Errno
	}{
		{nil, 0, api.OK},
		{[]api.Report{stay(5, 3), stay(4, 3), void(9, 3, 5), void(1, 4, 4)}, 0, api.OK},
		{[]api.Report{stay(5, 0), stay(5, 0)}, 1, api.ErrTwice},
		{[]api.Report{stay(5, 0), void(6, 0, 5), stay(6, 0)}, 2, api.ErrTwice},
		{[]api.Report{stay(5, 0), void(5, 0, 5)}, 1, api.ErrTwice},
		{[]api.Report{stay(5, 1), stay(6, 0)}, 1, api.ErrTime},
		{[]api.Report{stay(5, 1), void(6, 0, 5)}, 1, api.ErrTime},
		{[]api.Report{stay(5, 1), stay(6, 2), stay(7, 1)}, 2, api.ErrTime},
		{[]api.Report{void(5, 0, 5)}, 0, api.ErrNone},
		{[]api.Report{stay(5, 0), void(6, 0, 6)}, 1, api.ErrNone},
		{[]api.Report{stay(5, 0), void(6, 0, 7), stay(7, 0)}, 1, api.ErrNone},
		{[]api.Report{stay(5, 0), void(6, 0, 5), void(7, 0, 6)}, 2, api.ErrNone},
		{[]api.Report{stay(5, 0), void(6, 0, 5), void(7, 0, 5)}, 2, api.ErrTwice},
		{[]api.Report{stay(5, 0), stay(4, 0), void(6, 0, 5), void(7, 0, 4), void(8, 0, 4)}, 4, api.ErrTwice},
		// Of two errors of one report the first one.
		{[]api.Report{stay(5, 1), stay(5, 0)}, 1, api.ErrTwice},
		{[]api.Report{stay(5, 1), void(5, 0, 9)}, 1, api.ErrTwice},
		{[]api.Report{stay(5, 1), void(6, 0, 9)}, 1, api.ErrTime},
		{[]api.Report{stay(5, 1), {Id: 5, Kind: api.ReportStay, Owner: 1, Sort: "a", At: 3}}, 1, api.ErrPlace},
		{[]api.Report{stay(5, 1), {Id: 5}}, 1, api.ErrArg},
		// Of two reports with an error the first one.
		{[]api.Report{stay(5, 1), stay(6, 0), {}}, 1, api.ErrTime},
		{[]api.Report{{}, stay(5, 1), stay(6, 0)}, 0, api.ErrArg},
	} {
		if at, e := fell.Check(f, c.l); at != c.at || e != c.e {
			t.Errorf("Check(%v): %d, error %d, want %d, error %d", c.l, at, e, c.at, c.e)
		}
		if len(c.l) == 0 {
			continue
		}
		last := len(c.l) - 1
		if got, e := fell.Append(f, c.l[:last], c.l[last]); e != c.e || e == api.OK && !slices.Equal(got, c.l) || e != api.OK && len(got) > 0 {
			t.Errorf("Append(%v, %v): %v, error %d, want %d", c.l[:last], c.l[last], got, e, c.e)
		}
	}
}

// manyReports returns so many reports, which make a log unless these are too many.
func manyReports(size int) []api.Report {
	var l []api.Report
	for i := range size {
		l = append(l, api.Report{Id: i + 1, Kind: api.ReportStay, Owner: 1, Sort: "a", High: 1000})
	}
	return l
}

// E4: how many reports a log can have.
func TestLimitOfLogs(t *testing.T) {
	f := sample(t)
	for size, want := range map[int]api.Errno{299: api.OK, 300: api.OK, 301: api.ErrLimit, 5000: api.ErrLimit} {
		l := manyReports(size)
		at := 0
		if want != api.OK {
			at = 300
		}
		if i, e := fell.Check(f, l); i != at || e != want {
			t.Errorf("Check of %d reports: %d, error %d", size, i, e)
		}
	}
	if got, e := fell.Append(f, manyReports(299), api.Report{Id: 300, Kind: api.ReportVoid, Of: 299}); len(got) != 300 || e != api.OK {
		t.Errorf("Append to 299: %d reports, error %d", len(got), e)
	}
	if got, e := fell.Append(f, manyReports(300), api.Report{}); len(got) > 0 || e != api.ErrLimit {
		t.Errorf("Append to 300: %d reports, error %d", len(got), e)
	}
	wrong := manyReports(310)
	wrong[300].Id = 0
	if i, e := fell.Check(f, wrong); i != 300 || e != api.ErrLimit {
		t.Errorf("Check of too many, with a wrong one: %d, error %d", i, e)
	}
	wrong[7].Id = 0
	if i, e := fell.Check(f, wrong); i != 7 || e != api.ErrArg {
		t.Errorf("Check of too many, behind a wrong one: %d, error %d", i, e)
	}
	if got, e := fell.Append(f, wrong[:9], api.Report{Id: 1}); len(got) > 0 || e != api.ErrArg {
		t.Errorf("Append to a wrong log: %d reports, error %d", len(got), e)
	}
}

// E4: a fell that is not valid is found first, and has no index.
func TestCheckOfNoFell(t *testing.T) {
	for _, fault := range fellFaults() {
		f := sample(t)
		fault.do(&f)
		for _, l := range [][]api.Report{nil, sampleLog(t), {{Id: 1, Kind: 1, Owner: 1, Sort: "a"}, {}}, manyReports(301)} {
			if i, e := fell.Check(f, l); i != 0 || e != fault.e {
				t.Errorf("Check with the fault %q: %d, error %d, want %d", fault.name, i, e, fault.e)
			}
			if got, e := fell.Append(f, l, api.Report{}); len(got) > 0 || e != fault.e {
				t.Errorf("Append with the fault %q: %v, error %d, want %d", fault.name, got, e, fault.e)
			}
		}
	}
}

// E5.
func TestCounting(t *testing.T) {
	f, l := sample(t), sampleLog(t)
	for _, c := range []struct {
		known  int
		ids    []int
		owners []int
	}{
		{-1, nil, nil}, {0, []int{1}, []int{7}}, {2, []int{1}, []int{7}}, {3, []int{1, 2}, []int{7}}, {4, []int{2, 9, 5}, []int{3, 7}}, {5, []int{2, 9, 5}, []int{3, 7}},
		{6, []int{2, 9, 5, 6}, []int{3, 7}}, {8, []int{2, 9, 5, 6}, []int{3, 7}}, {9, []int{2, 9, 5}, []int{3, 7}}, {100000, []int{2, 9, 5}, []int{3, 7}}, {1 << 62, []int{2, 9, 5}, []int{3, 7}}, {-1 << 63, nil, nil},
	} {
		got, e := fell.Counting(f, l, c.known)
		var want []api.Report
		for _, id := range c.ids {
			want = append(want, l[slices.IndexFunc(l, func(x api.Report) bool { return x.Id == id })])
		}
		if !slices.Equal(got, want) || e != api.OK {
			t.Errorf("Counting on day %d: %v, error %d, want %v", c.known, got, e, want)
		}
		if owners, e := fell.Owners(f, l, c.known); !slices.Equal(owners, c.owners) || e != api.OK {
			t.Errorf("Owners on day %d: %v, error %d, want %v", c.known, owners, e, c.owners)
		}
	}
	for _, c := range []struct {
		known, owner int
		sorts        []string
	}{
		{3, 7, []string{"sheep"}}, {4, 7, []string{"cow", "sheep"}}, {4, 3, []string{"sheep"}}, {3, 3, nil}, {9, 7, []string{"cow", "sheep"}}, {9, 8, nil}, {9, 0, nil}, {9, 41, nil}, {9, -1, nil}, {-1, 7, nil},
	} {
		if sorts, e := fell.Sorts(f, l, c.known, c.owner); !slices.Equal(sorts, c.sorts) || e != api.OK {
			t.Errorf("Sorts of %d on day %d: %v, error %d, want %v", c.owner, c.known, sorts, e, c.sorts)
		}
	}
}

// E5: the order of owners and of sorts, also where one begins like another one.
func TestOrderOfOwnersAndSorts(t *testing.T) {
	f := sample(t)
	l := reports(t, f, "1 0 stay 40 sheep-2 high 0 0 1", "2 0 stay 9 sheep high 0 0 1", "3 0 stay 40 sheep high 0 0 1", "4 0 stay 10 z9 high 0 0 1", "5 0 stay 40 sheep2 high 0 0 1", "6 0 stay 40 cow high 0 0 1", "7 0 stay 40 sheep-2 low 0 0 1", "8 0 stay 1 she high 0 0 1")
	if owners, e := fell.Owners(f, l, 0); !slices.Equal(owners, []int{1, 9, 10, 40}) || e != api.OK {
		t.Errorf("Owners: %v, error %d", owners, e)
	}
	if sorts, e := fell.Sorts(f, l, 0, 40); !slices.Equal(sorts, []string{"cow", "sheep", "sheep-2", "sheep2"}) || e != api.OK {
		t.Errorf("Sorts: %v, error %d", sorts, e)
	}
}
