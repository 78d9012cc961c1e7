package bound_test

import (
	"math"
	"slices"
	"testing"

	"couchant/api"
	"couchant/bound"
)

// G6: the chapter's examples.
func TestLineageOfSample(t *testing.T) {
	f, l := sample(t), sampleLog(t)
	for _, c := range []struct {
		known int
		x     api.Figure
		upper bool
		want  []int
	}{
		{2, sheep(-1, 1), false, []int{1, 2, 4}}, {2, sheep(-1, 1), true, []int{1, 2, 3, 4}}, {3, sheep(-1, 1), true, []int{1, 2, 3, 4}}, {2, sheep(yard, 1), false, []int{4}}, {2, sheep(yard, 1), true, []int{3, 4}}, {0, sheep(high, 0), true, []int{1}}, {0, sheep(high, 0), false, []int{1}},
		{3, sheep(-1, 2), false, []int{5}}, {2, sheep(-1, 2), false, nil}, {2, sheep(-1, 2), true, []int{1, 2, 3}}, {-1, sheep(-1, 2), true, nil}, {2, api.Figure{Owner: 8, Sort: "sheep"}, true, nil},
	} {
		if ids, e := bound.Lineage(f, l, c.known, c.x, c.upper); !slices.Equal(ids, c.want) || e != api.OK {
			t.Errorf("Lineage of %v, upper %t, on the day %d: %v, error %d, want %v", c.x, c.upper, c.known, ids, e, c.want)
		}
	}
	// Of two reports that tell the same, the first one of the log is left, whatever their Ids are.
	twice := reports(t, f, nil, "9 0 stay 7 sheep high 0 3 10", "2 0 stay 7 sheep high 0 3 10", "5 0 stay 8 sheep high 0 4 5", "4 0 stay 7 cow high 0 4 5", "3 1 stay 7 sheep high 0 4 5", "1 2 void 3")
	for known, want := range map[int][]int{0: {9}, 1: {3}, 2: {9}} {
		for _, upper := range []bool{false, true} {
			if ids, e := bound.Lineage(f, twice, known, sheep(high, 0), upper); !slices.Equal(ids, want) || e != api.OK {
				t.Errorf("Lineage, upper %t, on the day %d: %v, error %d, want %v", upper, known, ids, e, want)
			}
		}
	}
	if ids, e := bound.Lineage(f, doubtLog(t), 4, sheep(high, 0), true); ids != nil || e != api.ErrDoubt {
		t.Errorf("Lineage in doubt: %v, error %d", ids, e)
	}
}

// G6: the chapter's examples, and lists that are no Ids of reports that count.
func TestCheckLineageOfSample(t *testing.T) {
	f := sample(t)
	l := reports(t, f, doubtLog(t), "7 4 stay 8 sheep high 1 0 5", "8 4 stay 7 cow high 1 0 5", "9 5 void 6", "10 6 stay 7 sheep low 1 0 3")
	for _, c := range []struct {
		known int
		upper bool
		end   int
		ids   []int
		want  bool
	}{
		{2, false, 11, []int{1, 2, 4}, true}, {2, false, 12, []int{1, 2, 3, 4}, false}, {2, false, 10, []int{1, 2, 4}, true}, {2, false, math.MinInt, nil, true}, {2, false, 0, nil, true}, {2, false, 1, nil, false}, {2, false, math.MaxInt, []int{1, 2, 4}, false},
		{2, true, 12, []int{1, 2, 3, 4}, true}, {2, true, 11, []int{1, 2, 3, 4}, false}, {2, true, 13, []int{1, 2, 3, 4}, true}, {2, true, math.MaxInt, nil, true}, {2, true, 2000, nil, true}, {2, true, 1999, nil, false}, {2, true, math.MinInt, []int{1, 2, 3, 4}, false},
		{2, false, 11, []int{1, 4, 2}, false}, {2, false, 11, []int{1, 2, 2, 4}, false}, {2, false, 11, []int{1, 2, 4, 4}, false}, {2, false, 11, []int{1, 2, 4, 5}, false}, {3, false, 11, []int{1, 2, 4, 5}, true}, {2, false, 11, []int{0, 1, 2, 4}, false}, {2, false, 11, []int{math.MinInt, 1, 2, 4}, false}, {2, false, 11, []int{1, 2, 4, math.MaxInt}, false},
		{4, false, 11, []int{1, 2, 4}, true}, {4, false, 11, []int{1, 2, 4, 6}, false}, {4, false, 20, []int{6}, true}, {5, false, 20, []int{6}, false}, {5, false, 11, []int{1, 2, 4, 7}, false}, {5, false, 11, []int{1, 2, 4, 8}, false}, {5, false, 11, []int{1, 2, 4, 9}, false}, {5, false, 11, []int{1, 2, 4, 10}, false}, {6, false, 11, []int{1, 2, 4, 10}, true},
	} {
		if is, e := bound.CheckLineage(f, l, c.known, sheep(-1, 1), c.upper, c.end, c.ids); is != c.want || e != api.OK {
			t.Errorf("CheckLineage of %d, upper %t, by %v on the day %d: %t, error %d", c.end, c.upper, c.ids, c.known, is, e)
		}
	}
}

// G7: the chapter's example, and others.
func TestDoubtOfSample(t *testing.T) {
	f := sample(t)
	l := reports(t, f, doubtLog(t), "7 5 stay 7 sheep yard 2 900 900", "8 6 void 1", "9 7 void 7", "13 8 void 6", "10 8 stay 7 sheep low 2 4 6", "12 8 stay 7 sheep low 2 8 9", "11 8 stay 7 sheep low 2 2 3")
	for known, want := range map[int][]int{3: nil, 4: {1, 2, 6}, 5: {1, 2, 6}, 6: {2, 3, 7}, 7: nil, 8: {10, 12}} {
		ids, is, e := bound.Doubt(f, l, known, 7, "sheep")
		if !slices.Equal(ids, want) || is != (want != nil) || e != api.OK {
			t.Errorf("Doubt on the day %d: %v, %t, error %d, want %v", known, ids, is, e, want)
		}
	}
	if ids, is, e := bound.Doubt(f, l, 4, 8, "sheep"); ids != nil || is || e != api.OK {
		t.Errorf("Doubt of another owner: %v, %t, error %d", ids, is, e)
	}
	if ids, is, e := bound.Doubt(f, l, 4, 7, "cow"); ids != nil || is || e != api.OK {
		t.Errorf("Doubt of another sort: %v, %t, error %d", ids, is, e)
	}
	if ids, is, e := bound.Doubt(f, nil, 0, 7, "sheep"); ids != nil || is || e != api.OK {
		t.Errorf("Doubt without reports: %v, %t, error %d", ids, is, e)
	}
}

// G7: lists that contradict each other, and others.
func TestCheckDoubtOfSample(t *testing.T) {
	f := sample(t)
	l := reports(t, f, doubtLog(t), "7 4 stay 8 sheep high 1 0 5", "8 4 stay 7 cow high 1 0 5", "9 5 void 6", "10 6 stay 7 sheep high 1 50 60")
	for _, c := range []struct {
		known int
		ids   []int
		want  bool
	}{
		{4, []int{1, 2, 6}, true}, {4, []int{1, 2, 3, 4, 5, 6}, true}, {4, []int{1, 2}, false}, {4, []int{2, 6}, false}, {4, []int{1, 6}, false}, {4, nil, false}, {4, []int{2, 1, 6}, false}, {4, []int{1, 2, 2, 6}, false}, {4, []int{1, 2, 6, 7}, false}, {4, []int{1, 2, 6, 8}, false}, {4, []int{1, 2, 6, 10}, false},
		{4, []int{0, 1, 2, 6}, false}, {4, []int{1, 2, 6, math.MaxInt}, false}, {4, []int{math.MinInt, 1, 2, 6}, false}, {3, []int{1, 2, 6}, false}, {5, []int{1, 2, 6}, false}, {5, []int{1, 2, 9}, false}, {6, []int{1, 2, 10}, true}, {6, []int{1, 2, 3, 10}, true},
	} {
		if is, e := bound.CheckDoubt(f, l, c.known, 7, "sheep", c.ids); is != c.want || e != api.OK {
			t.Errorf("CheckDoubt of %v on the day %d: %t, error %d", c.ids, c.known, is, e)
		}
		if is, e := bound.CheckDoubt(f, l, c.known, 7, "cow", c.ids); is || e != api.OK {
			t.Errorf("CheckDoubt of %v of another sort: %t, error %d", c.ids, is, e)
		}
	}
}

// G8: the chapter's example, and what is refused.
func TestReachedOfSample(t *testing.T) {
	f, l := sample(t), sampleLog(t)
	for _, c := range []struct {
		line  string
		known int
		want  []int
		e     api.Errno
	}{
		{"6 3 stay 7 sheep yard 1 4 4", 3, []int{1}, api.OK}, {"6 3 stay 7 sheep yard 1 3 4", 3, nil, api.OK}, {"6 3 stay 7 sheep yard 1 3 3", 9, []int{1}, api.OK}, {"6 3 stay 7 sheep yard 2 6 1000", 3, []int{2}, api.OK}, {"6 3 stay 7 cow yard 1 0 0", 3, nil, api.OK}, {"6 3 stay 7 cow high 1 5 9", 3, []int{0, 1, 2}, api.OK},
		{"6 3 stay 8 sheep low 0 1 1000", 3, []int{0}, api.OK}, {"6 4 stay 7 sheep yard 1 4 4", 3, nil, api.ErrArg}, {"6 4 stay 7 sheep high 1 20 30", 3, nil, api.ErrArg}, {"6 4 stay 7 sheep high 1 20 30", 4, nil, api.ErrDoubt}, {"6 3 void 5", 3, nil, api.ErrArg}, {"6 3 void 5", 2, nil, api.ErrArg}, {"6 3 void 7", 3, nil, api.ErrNone},
		{"5 3 stay 7 sheep yard 1 4 4", 3, nil, api.ErrTwice}, {"6 2 stay 7 sheep yard 1 4 4", 3, nil, api.ErrTime}, {"6 2 stay 7 sheep yard 1 4 4", 1, nil, api.ErrTime}, {"6 2 void 5", 1, nil, api.ErrTime},
	} {
		if ticks, e := bound.Reached(f, l, c.known, report(t, f, c.line)); !slices.Equal(ticks, c.want) || e != c.e || e != api.OK && ticks != nil {
			t.Errorf("Reached of %q on the day %d: %v, error %d, want %v, error %d", c.line, c.known, ticks, e, c.want, c.e)
		}
	}
	for line, want := range map[string]api.Errno{"7 4 stay 7 sheep yard 1 4 4": api.ErrDoubt, "7 4 stay 7 cow yard 1 4 4": api.OK, "7 4 stay 8 sheep yard 1 4 4": api.OK, "7 5 stay 7 sheep yard 1 4 4": api.ErrArg} {
		if _, e := bound.Reached(f, doubtLog(t), 4, report(t, f, line)); e != want {
			t.Errorf("Reached of %q in doubt: error %d, want %d", line, e, want)
		}
	}
	for x, want := range map[api.Report]api.Errno{{}: api.ErrArg, {Id: 6, Known: 3, Kind: 1, Owner: 7, Sort: "sheep", At: 3}: api.ErrPlace, {Id: 6, Known: 3, Kind: 1, Owner: 7, Sort: "sheep", High: 1001}: api.ErrArg} {
		if ticks, e := bound.Reached(f, l, 9, x); ticks != nil || e != want {
			t.Errorf("Reached of %v: %v, error %d, want %d", x, ticks, e, want)
		}
	}
	var full []api.Report
	for id := 1; id <= 300; id++ {
		full = append(full, api.Report{Id: id, Kind: api.ReportStay, Owner: 8, Sort: "sheep", High: 5})
	}
	if _, e := bound.Reached(f, full, 9, report(t, f, "301 0 stay 7 sheep yard 1 4 4")); e != api.ErrLimit {
		t.Errorf("Reached of one report too many: error %d", e)
	}
}

// G8: the chapter's example, also the other way round, and voids.
func TestTurnedOfSample(t *testing.T) {
	f := sample(t)
	l := reports(t, f, doubtLog(t), "7 5 void 6", "8 6 void 4")
	for _, c := range []struct {
		from, to int
		want     []int
		e        api.Errno
	}{
		{0, 3, []int{1, 2}, api.OK}, {3, 0, []int{1, 2}, api.OK}, {0, 2, []int{1}, api.OK}, {2, 3, []int{2}, api.OK}, {0, 1, nil, api.OK}, {3, 5, nil, api.OK}, {5, 6, []int{1}, api.OK}, {0, 6, []int{2}, api.OK}, {math.MinInt, 0, []int{0, 1, 2}, api.OK}, {6, math.MaxInt, nil, api.OK},
		{3, 4, nil, api.ErrDoubt}, {4, 3, nil, api.ErrDoubt}, {4, 4, nil, api.ErrDoubt},
	} {
		if ticks, e := bound.Turned(f, l, c.from, c.to, 7, "sheep"); !slices.Equal(ticks, c.want) || e != c.e {
			t.Errorf("Turned from %d to %d: %v, error %d, want %v, error %d", c.from, c.to, ticks, e, c.want, c.e)
		}
		if ticks, e := bound.Turned(f, l, c.from, c.to, 8, "sheep"); ticks != nil || e != api.OK {
			t.Errorf("Turned of another owner from %d to %d: %v, error %d", c.from, c.to, ticks, e)
		}
	}
}

// G6: what is left if reports are left out one by one.
func TestLineageOfAll(t *testing.T) {
	r := random(4)
	count, doubts := map[int]int{}, 0
	for range 1500 {
		c := randomScene(t, r, pick(r, shape{2, 3, 3, 3, 9}, shape{4, 20, 4, 4, 50}, shape{6, 0, 3, 3, 9}, shape{4, 0, 4, 4, 50}), 40, pick(r, 3, 20))
		x, upper := c.figure(r), r.IntN(2) == 0
		ids, e := bound.Lineage(c.f, c.l, c.known, x, upper)
		end, agree := endBy(t, c.f, c.counting(t), x, upper)
		if !agree {
			doubts++
			if ids != nil || e != api.ErrDoubt {
				t.Fatalf("%+v, %v: Lineage %v, error %d", c, x, ids, e)
			}
			continue
		}
		want := leftOut(t, c, func(l []api.Report) bool {
			other, _ := endBy(t, c.f, l, x, upper)
			return other == end
		})
		if !slices.Equal(ids, want) || e != api.OK {
			t.Fatalf("%+v, %v: Lineage of %d, upper %t: %v, error %d, want %v", c, x, end, upper, ids, e, want)
		}
		count[min(len(ids), 4)]++
	}
	if doubts < 50 || count[0] < 100 || count[1] < 100 || count[2] < 50 || count[3] < 20 || count[4] < 20 {
		t.Errorf("%d doubts, lengths of lineages: %v", doubts, count)
	}
}

// G6: any lists of Ids, by the ends of the reports that have them.
func TestCheckLineageAtRandom(t *testing.T) {
	r := random(5)
	count := map[bool]int{}
	for range 3000 {
		c := randomScene(t, r, shape{2, 3, 3, 3, 9}, 12, pick(r, 3, 20))
		x, upper, counting := c.figure(r), r.IntN(2) == 0, c.counting(t)
		chosen := slices.DeleteFunc(slices.Clone(counting), func(api.Report) bool { return r.IntN(3) == 0 })
		end, agree := endBy(t, c.f, chosen, x, upper)
		asked := end + pick(r, 0, 0, 1, -1, 5, -5)
		want := agree && (upper && asked >= end || !upper && asked <= end)
		ids := idsOf(chosen)
		switch r.IntN(6) {
		case 0:
			ids = append(ids, 10000)
			want = false
		case 1:
			for _, y := range c.l {
				if !slices.Contains(idsOf(counting), y.Id) {
					ids = append(ids, y.Id)
					slices.Sort(ids)
					want = false
					break
				}
			}
		}
		count[want]++
		if is, e := bound.CheckLineage(c.f, c.l, c.known, x, upper, asked, ids); is != want || e != api.OK {
			t.Fatalf("%+v, %v: CheckLineage of %d, upper %t, by %v: %t, error %d, want %t", c, x, asked, upper, ids, is, e, want)
		}
	}
	if count[true] < 500 || count[false] < 500 {
		t.Errorf("lineages accepted, and not: %v", count)
	}
}

// G7: what is left if reports are left out one by one, and any lists of Ids.
func TestDoubtOfAll(t *testing.T) {
	r := random(6)
	count, checked := map[int]int{}, map[bool]int{}
	for range 2500 {
		c := randomScene(t, r, pick(r, shape{2, 3, 3, 3, 9}, shape{4, 0, 4, 4, 50}, shape{3, 0, 2, 1, 9}, shape{2, 0, 3, 2, 3}), 25, pick(r, 3, 3, 20))
		if r.IntN(2) == 0 {
			c.err(t, r)
		}
		contrary := func(l []api.Report) bool {
			_, agree := endBy(t, c.f, l, sheep(0, 0), true)
			return !agree
		}
		ids, is, e := bound.Doubt(c.f, c.l, c.known, 7, "sheep")
		var want []int
		if contrary(c.counting(t)) {
			want = leftOut(t, c, contrary)
		}
		if !slices.Equal(ids, want) || is != (want != nil) || e != api.OK {
			t.Fatalf("%+v: Doubt %v, %t, error %d, want %v", c, ids, is, e, want)
		}
		count[min(len(ids), 4)]++
		chosen := slices.DeleteFunc(c.counting(t), func(api.Report) bool { return r.IntN(6) == 0 })
		checked[contrary(chosen)]++
		if is, e := bound.CheckDoubt(c.f, c.l, c.known, 7, "sheep", idsOf(chosen)); is != contrary(chosen) || e != api.OK {
			t.Fatalf("%+v: CheckDoubt of %v: %t, error %d", c, idsOf(chosen), is, e)
		}
	}
	if count[0] < 500 || count[2] < 100 || count[3] < 20 || count[4] < 10 || checked[true] < 200 || checked[false] < 500 {
		t.Errorf("lengths of doubts: %v, contrary or not: %v", count, checked)
	}
}

// G8: the ticks at which two tables differ.
func TestReachedAndTurnedOfAll(t *testing.T) {
	r := random(7)
	count := map[int]int{}
	differ := func(a, b []api.Pair) []int {
		var ticks []int
		for i := range max(len(a), len(b)) {
			if a[i] != b[i] {
				ticks = append(ticks, i)
			}
		}
		return ticks
	}
	for range 1500 {
		c := randomScene(t, r, pick(r, shape{2, 3, 3, 3, 9}, shape{6, 2, 3, 3, 9}), 12, pick(r, 3, 20))
		x := randomReport(t, r, c.f, pick(r, 7, 7, 3), "sheep", c.history, 1)
		x.Id, x.Known = 5000, c.known
		if len(c.l) > 0 {
			x.Known = max(c.known, c.l[len(c.l)-1].Known)
		}
		before, e := bound.Table(c.f, c.l, x.Known, x.Owner, x.Sort)
		after, g := bound.Table(c.f, append(slices.Clone(c.l), x), x.Known, x.Owner, x.Sort)
		ticks, h := bound.Reached(c.f, c.l, x.Known, x)
		if e == api.OK && g == api.OK && (!slices.Equal(ticks, differ(before, after)) || h != api.OK) || max(e, g) != h {
			t.Fatalf("%+v: Reached of %v: %v, error %d, from %v to %v", c, x, ticks, h, before, after)
		}
		count[min(len(ticks), 2)]++
		from := r.IntN(x.Known + 1)
		before, e = bound.Table(c.f, c.l, from, 7, "sheep")
		after, g = bound.Table(c.f, c.l, c.known, 7, "sheep")
		ticks, h = bound.Turned(c.f, c.l, from, c.known, 7, "sheep")
		if e == api.OK && g == api.OK && (!slices.Equal(ticks, differ(before, after)) || h != api.OK) || max(e, g) != h {
			t.Fatalf("%+v: Turned from %d: %v, error %d, from %v to %v", c, from, ticks, h, before, after)
		}
		count[10+min(len(ticks), 2)]++
	}
	for _, n := range []int{0, 1, 2, 10, 11, 12} {
		if count[n] < 50 {
			t.Errorf("numbers of ticks: %v", count)
		}
	}
}
