package bound_test

import (
	"fmt"
	"math"
	"math/rand/v2"
	"reflect"
	"slices"
	"testing"

	"couchant/api"
	"couchant/bound"
	"couchant/fell"
)

// arguments are all that the functions of the package can be asked with.
type arguments struct {
	f             api.Fell
	l             []api.Report
	x             api.Figure
	b             api.Bounds
	r             api.Report
	g             []api.Gathering
	w             api.Split
	set, ids      []int
	known, from   int
	owner, tick   int
	n, end, limit int
	sort          string
	upper         bool
}

// answer is what a function returns: its results without the error, what these are with an error, and the error.
type answer struct {
	results, none string
	e             api.Errno
}

func answered[T any](x T, e api.Errno) answer {
	var zero T
	return answer{fmt.Sprint(x), fmt.Sprint(zero), e}
}

// answeredIf is of a function with a bool that says whether there is a value.
func answeredIf[T any](x T, is bool, e api.Errno) answer {
	var zero T
	if !is && !reflect.DeepEqual(x, zero) {
		return answer{fmt.Sprint(x, is), "a zero value, as there is none", max(e, 1)}
	}
	return answer{fmt.Sprint(x, is), fmt.Sprint(zero, false), e}
}

func answeredEnds(low, high int, e api.Errno) answer { return answered([2]int{low, high}, e) }

func answeredHeads(low, high []api.Head, e api.Errno) answer {
	return answered([2][]api.Head{low, high}, e)
}

// calls asks every function of the package.
func calls() map[string]func(arguments) answer {
	return map[string]func(arguments) answer{
		"CheckFigure": func(x arguments) answer { return answered(0, bound.CheckFigure(x.f, x.x)) },
		"Weights":     func(x arguments) answer { return answered(bound.Weights(x.f, x.x)) },
		"Ends":        func(x arguments) answer { return answeredEnds(bound.Ends(x.f, x.l, x.known, x.x)) },
		"Table":       func(x arguments) answer { return answered(bound.Table(x.f, x.l, x.known, x.owner, x.sort)) },
		"Bounds":      func(x arguments) answer { return answered(bound.Bounds(x.f, x.l, x.known, x.x)) },
		"CheckBounds": func(x arguments) answer { return answered(bound.CheckBounds(x.f, x.l, x.known, x.x, x.b)) },
		"Through":     func(x arguments) answer { return answeredIf(bound.Through(x.f, x.l, x.known, x.x, x.n)) },
		"Heads":       func(x arguments) answer { return answeredHeads(bound.Heads(x.f, x.l, x.known, x.owner, x.tick)) },
		"Lineage":     func(x arguments) answer { return answered(bound.Lineage(x.f, x.l, x.known, x.x, x.upper)) },
		"CheckLineage": func(x arguments) answer {
			return answered(bound.CheckLineage(x.f, x.l, x.known, x.x, x.upper, x.end, x.ids))
		},
		"Doubt":           func(x arguments) answer { return answeredIf(bound.Doubt(x.f, x.l, x.known, x.owner, x.sort)) },
		"CheckDoubt":      func(x arguments) answer { return answered(bound.CheckDoubt(x.f, x.l, x.known, x.owner, x.sort, x.ids)) },
		"Reached":         func(x arguments) answer { return answered(bound.Reached(x.f, x.l, x.known, x.r)) },
		"Turned":          func(x arguments) answer { return answered(bound.Turned(x.f, x.l, x.from, x.known, x.owner, x.sort)) },
		"CheckGatherings": func(x arguments) answer { return answered(0, bound.CheckGatherings(x.f, x.g)) },
		"Outcomes":        func(x arguments) answer { return answered(bound.Outcomes(x.f, x.l, x.known, x.x, x.g, x.set)) },
		"Decides":         func(x arguments) answer { return answered(bound.Decides(x.f, x.l, x.known, x.x, x.limit, x.g, x.set)) },
		"Witness": func(x arguments) answer {
			return answeredIf(bound.Witness(x.f, x.l, x.known, x.x, x.limit, x.g, x.set))
		},
		"CheckWitness": func(x arguments) answer {
			return answered(bound.CheckWitness(x.f, x.l, x.known, x.x, x.limit, x.g, x.set, x.w))
		},
		"Cheapest": func(x arguments) answer { return answered(bound.Cheapest(x.f, x.l, x.known, x.x, x.limit, x.g)) },
	}
}

// fault makes something of the arguments invalid.
type fault struct {
	do func(x *arguments)
	e  api.Errno
}

// faults returns what can be wrong with arguments, in the order in which that is said.
func faults() ([]string, map[string]fault) {
	order := []string{"fell", "report of the log", "log", "report", "report's Id", "void", "later", "owner", "sort", "figure's owner", "figure's sort", "figure's tick", "tick", "figure's place", "all places", "gatherings", "gathering's tick", "gathering's cost", "gathering's place", "set", "index", "doubt", "outcomes", "far"}
	return order, map[string]fault{
		"fell":              {func(x *arguments) { x.f.Places[2].Name = "Yard" }, api.ErrForm},
		"report of the log": {func(x *arguments) { x.l[0].High = 1001 }, api.ErrArg},
		"log":               {func(x *arguments) { x.l[1].Known = 9 }, api.ErrTime},
		"report":            {func(x *arguments) { x.r.Low = 1000 }, api.ErrArg},
		"report's Id":       {func(x *arguments) { x.r.Id = 4 }, api.ErrTwice},
		"void":              {func(x *arguments) { x.r = api.Report{Id: x.r.Id, Known: x.r.Known, Kind: api.ReportVoid, Of: 3} }, api.ErrArg},
		"later":             {func(x *arguments) { x.r.Known = 4 }, api.ErrArg},
		"owner":             {func(x *arguments) { x.owner = 41 }, api.ErrArg},
		"sort":              {func(x *arguments) { x.sort = "-" }, api.ErrArg},
		"figure's owner":    {func(x *arguments) { x.x.Owner = 0 }, api.ErrArg},
		"figure's sort":     {func(x *arguments) { x.x.Sort = "" }, api.ErrArg},
		"figure's tick":     {func(x *arguments) { x.x.Tick = 3 }, api.ErrArg},
		"tick":              {func(x *arguments) { x.tick = -1 }, api.ErrArg},
		"figure's place":    {func(x *arguments) { x.x.Place = 3 }, api.ErrPlace},
		"all places":        {func(x *arguments) { x.x.Place = min(x.x.Place, -1) }, api.ErrPlace},
		"gatherings":        {func(x *arguments) { x.g = slices.Repeat(x.g, 3) }, api.ErrLimit},
		"gathering's tick":  {func(x *arguments) { x.g[1].Tick = 3 }, api.ErrArg},
		"gathering's cost":  {func(x *arguments) { x.g[1].Cost = 100001 }, api.ErrArg},
		"gathering's place": {func(x *arguments) { x.g[1].Place = -1 }, api.ErrPlace},
		"set":               {func(x *arguments) { x.set[1] = x.set[0] }, api.ErrArg},
		"index":             {func(x *arguments) { x.set[1] = 9 }, api.ErrArg},
		"doubt":             {func(x *arguments) { x.l = append(x.l, contrary) }, api.ErrDoubt},
		// Only what is known later is told by the reports then: there is nothing by which anything is narrow.
		"outcomes": {func(x *arguments) { x.known, x.from = -1, -1 }, api.ErrLimit},
		"far":      {func(x *arguments) { x.g[0].Tick, x.g[1].Tick, x.g[2].Tick = 0, 0, 0 }, api.ErrFar},
	}
}

// contrary is a report that contradicts others of the sample.
var contrary = api.Report{Id: 5000, Known: 3, Kind: api.ReportStay, Owner: 7, Sort: "sheep", Tick: 1, Low: 20, High: 30}

// faultsOf returns what can be wrong for each function.
func faultsOf() map[string][]string {
	with := func(l []string, more ...string) []string { return append(slices.Clone(l), more...) }
	log := []string{"fell", "report of the log", "log"}
	figure := []string{"figure's owner", "figure's sort", "figure's tick", "figure's place"}
	gatherings := []string{"gatherings", "gathering's tick", "gathering's cost", "gathering's place"}
	ofFigure := with(log, figure...)
	gathered := with(ofFigure, gatherings...)
	return map[string][]string{
		"CheckFigure": with(figure, "fell"), "Weights": with(figure, "fell"), "Ends": with(ofFigure, "doubt"), "Table": with(log, "owner", "sort", "doubt"), "Bounds": with(ofFigure, "doubt"), "CheckBounds": ofFigure, "Through": with(ofFigure, "all places"),
		"Heads": with(log, "owner", "tick", "doubt"), "Lineage": with(ofFigure, "doubt"), "CheckLineage": ofFigure, "Doubt": with(log, "owner", "sort"), "CheckDoubt": with(log, "owner", "sort"), "Reached": with(log, "report", "report's Id", "void", "later", "doubt"),
		"Turned": with(log, "owner", "sort", "doubt"), "CheckGatherings": with(gatherings, "fell"), "Outcomes": with(gathered, "set", "index", "doubt", "outcomes"), "Decides": with(gathered, "set", "index", "doubt", "outcomes"), "Witness": with(gathered, "set", "index", "doubt", "outcomes"),
		"CheckWitness": with(gathered, "set", "index"), "Cheapest": with(gathered, "doubt", "outcomes", "far"),
	}
}

// validArguments are arguments with which no function returns an error.
func validArguments(t testing.TB) arguments {
	t.Helper()
	f, l := sample(t), sampleLog(t)
	x := sheep(high, 1)
	b, e := bound.Bounds(f, l, 3, x)
	mustOK(t, "Bounds", e)
	g := sampleGatherings()
	w, _, e := bound.Witness(f, l, 3, x, 11, g, []int{0})
	mustOK(t, "Witness", e)
	return arguments{
		f: f, l: l, x: x, b: b, r: report(t, f, "6 3 stay 7 sheep yard 1 4 4"), g: g, w: w, set: []int{0, 1}, ids: []int{1, 2, 4},
		known: 3, from: 1, owner: 7, tick: 2, n: 3, end: 3, limit: 11, sort: "sheep", upper: true,
	}
}

// R1, R2: what is not said to be wrong for a function is nothing to it; of two faults the first one decides.
func TestErrors(t *testing.T) {
	order, all := faults()
	for name, its := range faultsOf() {
		if got := calls()[name](validArguments(t)); got.e != api.OK {
			t.Errorf("%s: error %d", name, got.e)
		}
		for i, first := range order {
			for _, second := range order[i:] {
				switch {
				// These undo what was wrong before them, or cannot be beside it.
				case first == "set" && second == "index", first == "report" && second == "void", first == "report's Id" && second == "void", first == "void" && second == "later", second == "later" && (first == "report" || first == "report's Id"),
					first == "figure's place" && second == "all places", first == "gathering's tick" && second == "far", first == "doubt" && second == "outcomes", second == "doubt" && first == "later", name == "Reached" && (first == "outcomes" || second == "outcomes"):
					continue
				}
				x := validArguments(t)
				all[first].do(&x)
				if second != first {
					all[second].do(&x)
				}
				want := api.OK
				switch {
				case slices.Contains(its, first):
					want = all[first].e
				case slices.Contains(its, second):
					want = all[second].e
				}
				got := calls()[name](x)
				if got.e != want || want != api.OK && got.results != got.none {
					t.Errorf("%s with the faults %q and %q: %.100s, error %d, want error %d", name, first, second, got.results, got.e, want)
				}
			}
		}
	}
}

// odd returns a number, often one that nothing is prepared for.
func odd(r *rand.Rand) int {
	return pick(r, 0, 1, 2, 3, r.IntN(8), -1, -2, math.MinInt, math.MaxInt, math.MinInt+1, math.MaxInt/2+1, 7, 24, 25, 40, 41, 1000, 1001, 100000, 100001, 1000000, 1000001, -10000001, int(r.Uint64()))
}

func oddList(r *rand.Rand) []int {
	var l []int
	for range r.IntN(6) {
		l = append(l, odd(r))
	}
	return l
}

func oddSort(r *rand.Rand) string {
	return pick(r, "", "sheep", "cow", "Sheep", "a\n", "\xff", "sheep ", "abcdefghijklmnopqrstuvwxyz", "-")
}

func oddReport(r *rand.Rand) api.Report {
	return api.Report{Id: odd(r), Known: odd(r), Kind: uint8(odd(r)), Owner: odd(r), Sort: oddSort(r), At: odd(r), Tick: odd(r), Low: odd(r), High: odd(r), Of: odd(r)}
}

func oddReports(r *rand.Rand) []api.Report {
	var l []api.Report
	for range r.IntN(4) {
		l = append(l, oddReport(r))
	}
	return l
}

func oddFell(r *rand.Rand) api.Fell {
	f := api.Fell{Ticks: odd(r), Yield: odd(r)}
	for range r.IntN(4) {
		f.Places = append(f.Places, api.Place{Name: oddSort(r), Kind: uint8(odd(r))})
		f.Gates = append(f.Gates, api.Gate{Name: oddSort(r), A: odd(r), B: odd(r), Most: odd(r)})
	}
	return f
}

func oddFigure(r *rand.Rand) api.Figure {
	return api.Figure{Owner: odd(r), Sort: oddSort(r), Place: odd(r), Tick: odd(r)}
}

func oddGatherings(r *rand.Rand) []api.Gathering {
	var g []api.Gathering
	for range r.IntN(10) {
		g = append(g, api.Gathering{Place: odd(r), Tick: odd(r), Cost: odd(r)})
	}
	return g
}

func oddBounds(r *rand.Rand) api.Bounds {
	return api.Bounds{Low: odd(r), High: odd(r), Least: oddList(r), Greatest: oddList(r), Lower: oddList(r), Upper: oddList(r)}
}

// randomArguments returns arguments of which some are often odd.
func randomArguments(t testing.TB, r *rand.Rand) arguments {
	t.Helper()
	c := randomScene(t, r, shape{2, 1, 3, 3, 3}, 8, 3)
	x := arguments{
		f: c.f, l: c.l, x: c.figure(r), r: randomReport(t, r, c.f, pick(r, 7, 3), "sheep", c.history, 2), g: c.gatherings(r, 3), w: api.Split{One: c.history, Two: c.history}, ids: idsOf(c.counting(t)),
		known: c.known, from: r.IntN(c.known + 2), owner: 7, tick: r.IntN(c.f.Ticks + 1), n: r.IntN(5), end: r.IntN(9), limit: r.IntN(6), sort: "sheep", upper: r.IntN(2) == 0,
	}
	x.set = pick(r, sets(len(x.g))...)
	x.r.Id, x.r.Known = 9000, c.known
	x.b, _ = bound.Bounds(x.f, x.l, x.known, x.x)
	if r.IntN(3) > 0 {
		return x
	}
	oddities := []func(){
		func() { x.f = oddFell(r) }, func() { x.f.Ticks = odd(r) }, func() { x.l = oddReports(r) }, func() { x.l = append(slices.Clone(x.l), oddReport(r)) }, func() { x.x = oddFigure(r) }, func() { x.x.Place = odd(r) }, func() { x.x.Tick = odd(r) }, func() { x.r = oddReport(r) }, func() { x.r.Known = odd(r) },
		func() { x.g = oddGatherings(r) }, func() { x.set = oddList(r) }, func() { x.ids = oddList(r) }, func() { x.b = oddBounds(r) }, func() { x.w = api.Split{One: oddList(r), Two: oddList(r)} }, func() { x.known = odd(r) }, func() { x.from = odd(r) }, func() { x.owner = odd(r) }, func() { x.tick = odd(r) },
		func() { x.n = odd(r) }, func() { x.end = odd(r) }, func() { x.limit = odd(r) }, func() { x.sort = oddSort(r) },
	}
	for range 1 + r.IntN(5) {
		pick(r, oddities...)()
	}
	return x
}

// R1: no call panics. R2: nothing is returned beside an error. R3: no argument is changed. R4: asked again, a function returns the same.
func TestRulesAtRandom(t *testing.T) {
	r := random(61)
	failed, fine := map[string]int{}, map[string]int{}
	all := calls()
	for range 600 {
		x := randomArguments(t, r)
		before := fmt.Sprint(x)
		for name, call := range all {
			first := call(x)
			if first.e != api.OK && first.results != first.none {
				t.Errorf("%s(%+v): %s with error %d", name, x, first.results, first.e)
			}
			if again := call(x); again != first {
				t.Errorf("%s(%+v): %+v, then %+v", name, x, first, again)
			}
			if fmt.Sprint(x) != before {
				t.Fatalf("%s changed its arguments from %s to %+v", name, before, x)
			}
			if first.e == api.OK {
				fine[name]++
			} else {
				failed[name]++
			}
		}
	}
	for name := range all {
		if fine[name] < 30 || failed[name] < 20 {
			t.Errorf("%s succeeded %d times, and failed %d times", name, fine[name], failed[name])
		}
	}
}

// R1: all that is odd at once.
func TestOddArguments(t *testing.T) {
	r := random(62)
	for range 5000 {
		x := arguments{
			f: oddFell(r), l: oddReports(r), x: oddFigure(r), b: oddBounds(r), r: oddReport(r), g: oddGatherings(r), w: api.Split{One: oddList(r), Two: oddList(r)}, set: oddList(r), ids: oddList(r),
			known: odd(r), from: odd(r), owner: odd(r), tick: odd(r), n: odd(r), end: odd(r), limit: odd(r), sort: oddSort(r), upper: r.IntN(2) == 0,
		}
		if r.IntN(2) == 0 {
			x.f, x.l = sample(t), nil
		}
		for name, call := range calls() {
			if got := call(x); got.e != api.OK && got.results != got.none {
				t.Errorf("%s(%+v): %+v", name, x, got)
			}
		}
	}
}

// spoil overwrites lists.
func spoil(lists ...[]int) {
	for _, l := range lists {
		for i := range l {
			l[i] = 77
		}
	}
}

// R3: results are new memory, also among themselves, and share none with arguments.
func TestResultsAreNewMemory(t *testing.T) {
	f, l, g, x := sample(t), sampleLog(t), sampleGatherings(), sheep(-1, 1)
	l = append(make([]api.Report, 0, 50), l...)
	set := append(make([]int, 0, 50), 0, 2)
	want := ""
	for range 3 {
		b, e := bound.Bounds(f, l, 2, x)
		mustOK(t, "Bounds", e)
		w, is, e := bound.Witness(f, l, 2, x, 11, g, set[1:])
		mustOK(t, "Witness", e)
		outcomes, e := bound.Outcomes(f, l, 2, x, g, set)
		mustOK(t, "Outcomes", e)
		errand, e := bound.Cheapest(f, l, 2, x, 11, g)
		mustOK(t, "Cheapest", e)
		low, high, e := bound.Heads(f, l, 2, 7, 1)
		mustOK(t, "Heads", e)
		pairs := table(t, f, l, 2, 7, "sheep")
		history, _, e := bound.Through(f, l, 2, sheep(yard, 1), 3)
		mustOK(t, "Through", e)
		weights, e := bound.Weights(f, x)
		mustOK(t, "Weights", e)
		lineage, e := bound.Lineage(f, l, 2, x, true)
		mustOK(t, "Lineage", e)
		turned, e := bound.Turned(f, l, 0, 3, 7, "sheep")
		mustOK(t, "Turned", e)
		reached, e := bound.Reached(f, l, 3, report(t, f, "6 3 stay 7 sheep yard 1 4 4"))
		mustOK(t, "Reached", e)
		doubt, _, e := bound.Doubt(f, doubtLog(t), 4, 7, "sheep")
		mustOK(t, "Doubt", e)
		got := fmt.Sprint(b, w, is, outcomes, errand, low, high, pairs, history, weights, lineage, turned, reached, doubt)
		if want != "" && got != want {
			t.Fatalf("results share memory: %s, first %s", got, want)
		}
		want = got
		spoil(b.Least, b.Upper)
		if fmt.Sprint(b.Greatest, b.Lower) != fmt.Sprint(another(t, f, l, x).Greatest, another(t, f, l, x).Lower) {
			t.Errorf("lists of Bounds share memory: %v", b)
		}
		spoil(w.One)
		if slices.Contains(w.Two, 77) {
			t.Errorf("histories of Witness share memory: %v", w)
		}
		spoil(outcomes[0])
		_ = append(outcomes[1], 78)
		if slices.Contains(outcomes[1], 77) || slices.Contains(outcomes[2], 78) {
			t.Errorf("Outcomes share memory: %v", outcomes)
		}
		low[0] = api.Head{}
		if high[0].Sort != "sheep" {
			t.Errorf("Heads share memory: %v", high)
		}
		spoil(b.Greatest, b.Lower, w.Two, errand.Set, history, weights, lineage, turned, reached, doubt)
		high[0], pairs[0] = api.Head{}, api.Pair{A: 77}
	}
	if !slices.Equal(l, sampleLog(t)) || l[:6][5] != (api.Report{}) || !slices.Equal(set, []int{0, 2}) || set[:3][2] != 0 || !slices.Equal(g, sampleGatherings()) || !reflect.DeepEqual(f, sample(t)) {
		t.Errorf("results share memory with arguments: %v, %v, %v", l, set, g)
	}
}

// another returns the bounds of a figure on the day 2.
func another(t *testing.T, f api.Fell, l []api.Report, x api.Figure) api.Bounds {
	t.Helper()
	b, e := bound.Bounds(f, l, 2, x)
	mustOK(t, "Bounds", e)
	return b
}

// R3: nil and empty slices are equivalent.
func TestNilAndEmpty(t *testing.T) {
	f := parsed(t, "fell 1 2", "heaf a")
	none := arguments{f: f, x: sheep(0, 1), r: report(t, f, "1 0 stay 7 sheep a 0 1 2"), owner: 7, sort: "sheep", end: 1000, limit: 5, upper: true}
	empty := none
	empty.f.Gates, empty.l, empty.g, empty.set, empty.ids = []api.Gate{}, []api.Report{}, []api.Gathering{}, []int{}, []int{}
	empty.b = api.Bounds{Least: []int{}, Greatest: []int{}, Lower: []int{}, Upper: []int{}}
	empty.w = api.Split{One: []int{}, Two: []int{}}
	for name, call := range calls() {
		if x, y := call(none), call(empty); x != y {
			t.Errorf("%s: %+v for nil, %+v for empty slices", name, x, y)
		}
	}
	if is, e := bound.CheckLineage(f, nil, 0, sheep(0, 1), true, 1000, []int{}); !is || e != api.OK {
		t.Errorf("CheckLineage of no Ids: %t, error %d", is, e)
	}
}

// A log without any reports that count is no doubt, and one of voids neither.
func TestNothingCounts(t *testing.T) {
	f := sample(t)
	l := reports(t, f, nil, "1 0 stay 7 sheep high 0 3 3", "2 0 stay 7 sheep high 0 4 4", "3 1 void 1", "4 1 void 2")
	if _, _, e := bound.Ends(f, l, 0, sheep(0, 0)); e != api.ErrDoubt {
		t.Errorf("Ends on the day 0: error %d", e)
	}
	if low, high := ends(t, f, l, 1, sheep(0, 0)); low != 0 || high != 1000 {
		t.Errorf("Ends on the day 1: %d, %d", low, high)
	}
	if ids, is, e := bound.Doubt(f, l, 0, 7, "sheep"); !slices.Equal(ids, []int{1, 2}) || !is || e != api.OK {
		t.Errorf("Doubt on the day 0: %v, %t, error %d", ids, is, e)
	}
	if ids, is, e := bound.Doubt(f, l, 1, 7, "sheep"); ids != nil || is || e != api.OK {
		t.Errorf("Doubt on the day 1: %v, %t, error %d", ids, is, e)
	}
	if low, high, e := bound.Heads(f, l, 1, 7, 0); low != nil || high != nil || e != api.OK {
		t.Errorf("Heads on the day 1: %v, %v, error %d", low, high, e)
	}
	if n, e := fell.Counting(f, l, 1); len(n) != 0 || e != api.OK {
		t.Errorf("Counting on the day 1: %v, error %d", n, e)
	}
}
