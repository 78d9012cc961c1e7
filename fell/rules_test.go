package fell_test

import (
	"fmt"
	"math"
	"math/rand/v2"
	"slices"
	"strings"
	"testing"

	"couchant/api"
	"couchant/fell"
)

// arguments are all that the functions of the package can be asked with.
type arguments struct {
	f                       api.Fell
	l                       []api.Report
	x                       api.Report
	history                 []int
	src, name, line, sort   string
	place, other, tick, arc int
	known, owner            int
}

// answer is what a function returns: its results without the error, what these are with an error, and the error.
type answer struct {
	results, none string
	e             api.Errno
}

func answered[T any](x T, e api.Errno) answer {
	var zero T
	return answer{fmt.Sprint(x), fmt.Sprint(zero), e}
}

// answeredAt is of a function whose first result tells where the error is.
func answeredAt(at int, e api.Errno) answer {
	text := fmt.Sprint(at)
	if e == api.OK {
		return answer{text, "0", e}
	}
	return answer{text, text, e}
}

// answeredIf is of a function that returns something else than zero if a fell is valid.
func answeredIf[T comparable](x T) answer {
	var zero T
	if x != zero {
		return answered(x, api.OK)
	}
	return answered(x, api.ErrNone)
}

func answeredFault(f api.Fell, fault api.Fault) answer {
	if fault == (api.Fault{}) {
		return answered(f, api.OK)
	}
	return answered(f, max(fault.Err, 1))
}

// calls asks every function of the package.
func calls() map[string]func(arguments) answer {
	return map[string]func(arguments) answer{
		"CheckFell":   func(x arguments) answer { return answered(0, fell.CheckFell(x.f)) },
		"ParseFell":   func(x arguments) answer { return answeredFault(fell.ParseFell(x.src)) },
		"PrintFell":   func(x arguments) answer { return answeredIf(fell.PrintFell(x.f)) },
		"PlaceOf":     func(x arguments) answer { return answered(fell.PlaceOf(x.f, x.name)) },
		"GateOf":      func(x arguments) answer { return answered(fell.GateOf(x.f, x.name)) },
		"Beside":      func(x arguments) answer { return answered(fell.Beside(x.f, x.place)) },
		"Ways":        func(x arguments) answer { return answered(fell.Ways(x.f, x.place, x.other)) },
		"CheckReport": func(x arguments) answer { return answered(0, fell.CheckReport(x.f, x.x)) },
		"Check":       func(x arguments) answer { return answeredAt(fell.Check(x.f, x.l)) },
		"Append":      func(x arguments) answer { return answered(fell.Append(x.f, x.l, x.x)) },
		"Counting":    func(x arguments) answer { return answered(fell.Counting(x.f, x.l, x.known)) },
		"Owners":      func(x arguments) answer { return answered(fell.Owners(x.f, x.l, x.known)) },
		"Sorts":       func(x arguments) answer { return answered(fell.Sorts(x.f, x.l, x.known, x.owner)) },
		"Write":       func(x arguments) answer { return answered(fell.Write(x.f, x.x)) },
		"Read":        func(x arguments) answer { return answered(fell.Read(x.f, x.line)) },
		"Nodes":       func(x arguments) answer { return answeredIf(fell.Nodes(x.f)) },
		"Arcs":        func(x arguments) answer { return answeredIf(fell.Arcs(x.f)) },
		"NumberArc":   func(x arguments) answer { return answered(fell.NumberArc(x.f, x.place, x.tick)) },
		"MoveArc":     func(x arguments) answer { return answered(fell.MoveArc(x.f, x.x)) },
		"NameArc":     func(x arguments) answer { return answered(fell.NameArc(x.f, x.arc)) },
		"NetOf":       func(x arguments) answer { return answered(fell.NetOf(x.f, x.l, x.known, x.owner, x.sort)) },
		"Nature":      func(x arguments) answer { return answered(fell.Nature(x.f)) },
		"OnFell":      func(x arguments) answer { return answered(fell.OnFell(x.f, x.tick)) },
		"At":          func(x arguments) answer { return answered(fell.At(x.f, x.history, x.place, x.tick)) },
		"Present":     func(x arguments) answer { return answered(fell.Present(x.f, x.history, x.tick)) },
		"Keeps":       func(x arguments) answer { return answered(fell.Keeps(x.f, x.history, x.x)) },
	}
}

// fault makes something of the arguments invalid.
type fault struct {
	do func(x *arguments)
	e  api.Errno
}

// faults returns what can be wrong with arguments, in the order in which that is said; those of a fell and of a log have tests of their own.
func faults() ([]string, map[string]fault) {
	order := []string{"fell", "log's report", "log", "report", "report's place", "void", "report of the log", "amounts", "amount", "tick", "arc", "owner", "sort", "place", "other place", "name", "line", "no way"}
	return order, map[string]fault{
		"fell":              {func(x *arguments) { x.f.Places[2].Name = "" }, api.ErrForm},
		"log":               {func(x *arguments) { x.l[1].Known = 0 }, api.ErrTime},
		"log's report":      {func(x *arguments) { x.l[1].At = 3 }, api.ErrPlace},
		"report":            {func(x *arguments) { x.x.Owner = 41 }, api.ErrArg},
		"report's place":    {func(x *arguments) { x.x.At = 3 }, api.ErrPlace},
		"void":              {func(x *arguments) { x.x = api.Report{Id: x.x.Id, Known: x.x.Known, Kind: 8, Of: 1} }, api.ErrArg},
		"report of the log": {func(x *arguments) { x.x.Id = 1 }, api.ErrTwice},
		"amounts":           {func(x *arguments) { x.history = x.history[:9] }, api.ErrArg},
		"amount":            {func(x *arguments) { x.history[7] = 1001 }, api.ErrArg},
		"tick":              {func(x *arguments) { x.tick = 3 }, api.ErrArg},
		"arc":               {func(x *arguments) { x.arc = 53 + 7 }, api.ErrArg},
		"owner":             {func(x *arguments) { x.owner = 0 }, api.ErrArg},
		"sort":              {func(x *arguments) { x.sort = "" }, api.ErrArg},
		"place":             {func(x *arguments) { x.place = 4 }, api.ErrPlace},
		"other place":       {func(x *arguments) { x.other = -1 }, api.ErrPlace},
		"name":              {func(x *arguments) { x.name = "nowhere" }, api.ErrNone},
		"line":              {func(x *arguments) { x.line = "1 0" }, api.ErrForm},
		"no way":            {func(x *arguments) { x.f.Gates = x.f.Gates[:1] }, api.ErrNone},
	}
}

// faultsOf returns what can be wrong for each function.
func faultsOf() map[string][]string {
	f, log := []string{"fell"}, []string{"fell", "log", "log's report"}
	with := func(l []string, more ...string) []string { return append(slices.Clone(l), more...) }
	return map[string][]string{
		"CheckFell": f, "PlaceOf": with(f, "name"), "GateOf": with(f, "name"), "Beside": with(f, "place"), "Ways": with(f, "place", "other place", "no way"),
		"CheckReport": with(f, "report", "report's place"), "Check": log, "Append": with(log, "report", "report's place", "report of the log"),
		"Counting": log, "Owners": log, "Sorts": log, "Write": with(f, "report", "report's place"), "Read": with(f, "line"), "NumberArc": with(f, "tick", "place"),
		"MoveArc": with(f, "report", "report's place", "void"), "NameArc": with(f, "arc"), "NetOf": with(log, "owner", "sort"), "Nature": f, "OnFell": with(f, "tick"),
		"At": with(f, "amounts", "amount", "tick", "place"), "Present": with(f, "amounts", "amount", "tick"), "Keeps": with(f, "report", "report's place", "void", "amounts", "amount"),
	}
}

// validArguments are arguments with which no function returns an error.
func validArguments(t testing.TB) arguments {
	f := sample(t)
	f.Gates[0].Name = "high"
	l := []api.Report{{Id: 1, Known: 3, Kind: 1, Owner: 7, Sort: "sheep", High: 9}, {Id: 2, Known: 4, Kind: 4, Owner: 7, Sort: "sheep", At: 1, Tick: 1, High: 9}}
	return arguments{
		f: f, l: l, x: api.Report{Id: 3, Known: 5, Kind: 7, Owner: 2, Sort: "cow", At: 2, Low: 1, High: 3}, history: numbered(), src: "fell 1 0\nheaf a", name: "high", line: "1 0 stay 7 sheep high 0 0 1", sort: "sheep",
		place: 0, other: 2, tick: 1, arc: 7, known: 4, owner: 7,
	}
}

// What is not said to be wrong for a function is nothing to it; of two faults the first one decides.
func TestErrors(t *testing.T) {
	order, all := faults()
	for name, its := range faultsOf() {
		if got := calls()[name](validArguments(t)); got.e != api.OK {
			t.Errorf("%s: error %d", name, got.e)
		}
		for i, first := range order {
			for _, second := range order[i:] {
				x := validArguments(t)
				all[first].do(&x)
				if second != first {
					all[second].do(&x)
				}
				want := api.OK
				switch {
				case slices.Contains(its, first):
					want = all[first].e
				case slices.Contains(its, second):
					want = all[second].e
				}
				if blurred(name, first, second) {
					continue
				}
				got := calls()[name](x)
				if got.e != want || want != api.OK && got.results != got.none {
					t.Errorf("%s with the faults %q and %q: %s, error %d, want error %d", name, first, second, got.results, got.e, want)
				}
			}
		}
	}
}

// blurred tells whether a fault undoes one before it, or changes more than it says for a function.
func blurred(name, first, second string) bool {
	switch second {
	case "void":
		return strings.HasPrefix(first, "report")
	case "report of the log":
		return first == "void"
	case "no way":
		return name != "Ways"
	}
	return false
}

// odd returns a number, often one that nothing is prepared for.
func odd(r *rand.Rand) int {
	return pick(r, 0, 1, 2, 3, r.IntN(8), -1, math.MinInt, math.MaxInt, math.MinInt+1, math.MaxInt/2+1, 7, 8, 12, 13, 24, 25, 40, 41, 1000, 1001, 100001, 1000001, int(r.Uint64()))
}

func oddName(r *rand.Rand) string {
	return pick(r, "", "a", "stay", "-", "A", " ", "\n", "\xff", strings.Repeat("a", 24), strings.Repeat("a", 25), randomName(r))
}

func oddReport(r *rand.Rand) api.Report {
	return api.Report{Id: odd(r), Known: odd(r), Kind: uint8(r.IntN(256)), Owner: odd(r), Sort: oddName(r), At: odd(r), Tick: odd(r), Low: odd(r), High: odd(r), Of: odd(r)}
}

func oddFell(r *rand.Rand) api.Fell {
	f := api.Fell{Ticks: odd(r), Yield: odd(r)}
	for range r.IntN(11) {
		f.Places = append(f.Places, api.Place{Name: oddName(r), Kind: uint8(r.IntN(4))})
	}
	for range r.IntN(15) {
		f.Gates = append(f.Gates, api.Gate{Name: oddName(r), A: odd(r), B: odd(r), Most: odd(r)})
	}
	return f
}

// randomArguments returns arguments of which some are often odd.
func randomArguments(r *rand.Rand) arguments {
	f := randomFell(r)
	f.Ticks = min(f.Ticks, 4)
	x := arguments{f: f, history: randomHistory(r, f), src: pick(r, fell.PrintFell(f), randomSource(r)), sort: randomSort(r), place: r.IntN(len(f.Places)), other: r.IntN(len(f.Places)), tick: r.IntN(f.Ticks + 1), arc: r.IntN(fell.Arcs(f)), known: r.IntN(8), owner: 1 + r.IntN(owners)}
	x.l = randomLog(r, f, 8, x.history)
	x.x = randomReport(r, f, -1)
	x.x.Id, x.x.Known = 100, 50
	x.line = writtenLine(f, x.x)
	x.name = f.Places[0].Name
	if len(f.Gates) > 0 && r.IntN(2) == 0 {
		x.name = f.Gates[0].Name
	}
	if r.IntN(3) > 0 {
		return x
	}
	oddities := []func(){
		func() { x.f = oddFell(r) }, func() { spoilFell(r, &x.f) }, func() { spoilFell(r, &x.f) }, func() { x.l = append(x.l, oddReport(r)) }, func() { x.l = manyReports(pick(r, 299, 300, 301)) }, func() { x.x = oddReport(r) }, func() { x.x.At = odd(r) },
		func() { x.history = append(x.history, odd(r)) }, func() { x.history = append([]int{odd(r)}, x.history[:max(len(x.history), 1)-1]...) }, func() { x.history = nil }, func() { x.src = oddName(r) + x.src + oddName(r) }, func() { x.name = oddName(r) },
		func() { x.line = oddName(r) + " " + x.line }, func() { x.line = strings.Repeat(oddName(r)+" ", pick(r, 3, 8)) }, func() { x.sort = oddName(r) }, func() { x.place = odd(r) }, func() { x.other = odd(r) }, func() { x.tick = odd(r) }, func() { x.arc = odd(r) }, func() { x.known = odd(r) }, func() { x.owner = odd(r) },
	}
	for range 1 + r.IntN(6) {
		pick(r, oddities...)()
	}
	return x
}

// R1: no call panics. R2: nothing is returned beside an error. R3: no argument is changed. R4: asked again, a function returns the same.
func TestRulesAtRandom(t *testing.T) {
	r := random(61)
	failed, fine := map[string]int{}, map[string]int{}
	all := calls()
	for range 1500 {
		x := randomArguments(r)
		before := fmt.Sprint(x)
		for name, call := range all {
			first := call(x)
			if first.e != api.OK && first.results != first.none {
				t.Errorf("%s(%+v): %s with error %d", name, x, first.results, first.e)
			}
			if again := call(x); again != first {
				t.Errorf("%s(%+v): %+v, then %+v", name, x, first, again)
			}
			if fmt.Sprint(x) != before {
				t.Fatalf("%s changed its arguments from %s to %+v", name, before, x)
			}
			if first.e == api.OK {
				fine[name]++
			} else {
				failed[name]++
			}
		}
	}
	for name := range all {
		if fine[name] < 50 || failed[name] < 50 {
			t.Errorf("%s succeeded %d times, and failed %d times", name, fine[name], failed[name])
		}
	}
}

// R1: all that is odd at once.
func TestOddArguments(t *testing.T) {
	r := random(62)
	for range 5000 {
		x := arguments{
			f: oddFell(r), l: []api.Report{oddReport(r), oddReport(r)}, x: oddReport(r), history: []int{odd(r), odd(r)}, src: oddName(r), name: oddName(r), line: oddName(r), sort: oddName(r),
			place: odd(r), other: odd(r), tick: odd(r), arc: odd(r), known: odd(r), owner: odd(r),
		}
		if r.IntN(2) == 0 {
			x.f = sample(t)
		}
		for name, call := range calls() {
			if got := call(x); got.e != api.OK && got.results != got.none {
				t.Errorf("%s(%+v): %+v", name, x, got)
			}
		}
	}
}

// R3: results are new memory, also where an argument has room behind its end.
func TestResultsAreNewMemory(t *testing.T) {
	f := sample(t)
	l := append(make([]api.Report, 0, 20), sampleLog(t)...)
	longer, e := fell.Append(f, l, api.Report{Id: 50, Known: 9, Kind: api.ReportVoid, Of: 9})
	mustOK(t, "Append", e)
	longer[0].Id = 77
	again, e := fell.Append(f, l, api.Report{Id: 51, Known: 9, Kind: api.ReportVoid, Of: 5})
	mustOK(t, "Append", e)
	if !slices.Equal(l, sampleLog(t)) || l[:8][7] != (api.Report{}) || longer[7].Id != 50 || again[7].Id != 51 {
		t.Errorf("what Append returns shares memory with its argument: %v, %v, %v", l[:8], longer, again)
	}
	for range 2 {
		counting, e := fell.Counting(f, l, 9)
		if e != api.OK || len(counting) != 3 || counting[0].Id != 2 {
			t.Errorf("Counting: %v, error %d", counting, e)
		}
		counting[0].Id = 77
		beside, e := fell.Beside(f, 1)
		if e != api.OK || !slices.Equal(beside, []int{0, 2}) {
			t.Errorf("Beside: %v, error %d", beside, e)
		}
		beside[0] = 77
		weights, e := fell.OnFell(f, 0)
		if e != api.OK || weights[0] != 1 {
			t.Errorf("OnFell: %v, error %d", weights, e)
		}
		weights[0] = 77
		net, e := fell.Nature(f)
		if e != api.OK || net.Arcs[0].High != 1000 {
			t.Errorf("Nature: %v, error %d", net, e)
		}
		net.Arcs[0].High = 77
		parsed, fault := fell.ParseFell(fell.PrintFell(f))
		if fault != (api.Fault{}) || !same(parsed, f) {
			t.Errorf("ParseFell: %v, fault %v", parsed, fault)
		}
		parsed.Places[0].Name, parsed.Gates[0].Most = "other", 77
	}
}

// R3: nil and empty slices are equivalent.
func TestNilAndEmpty(t *testing.T) {
	none := arguments{f: api.Fell{Ticks: 1, Places: places(1)}, x: api.Report{Id: 1, Kind: 1, Owner: 1, Sort: "a"}, name: "p0", line: "1 0 stay 1 a p0 0 0 0", sort: "a", owner: 1}
	empty := none
	empty.f.Gates, empty.l, empty.history = []api.Gate{}, []api.Report{}, []int{}
	for name, call := range calls() {
		if x, y := call(none), call(empty); x != y {
			t.Errorf("%s: %+v for nil, %+v for empty slices", name, x, y)
		}
	}
	none.f, empty.f = api.Fell{}, api.Fell{Places: []api.Place{}, Gates: []api.Gate{}}
	for name, call := range calls() {
		if x, y := call(none), call(empty); x != y {
			t.Errorf("%s of no fell: %+v for nil, %+v for empty slices", name, x, y)
		}
	}
}
