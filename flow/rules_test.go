package flow_test

import (
	"fmt"
	"math"
	"math/rand/v2"
	"reflect"
	"slices"
	"testing"

	"couchant/api"
	"couchant/flow"
)

// arguments are all that the functions of the package can be asked with. ObstacleRecords is asked of a net that has an obstacle.
type arguments struct {
	g, h, obstructed               api.Net
	w, x, p                        []int
	o                              api.Obstacle
	circles                        []api.Circle
	arc, from, amount, low, record int
	high                           int
}

// answer is what a function returns: its results without the error, what these are with an error, and the error.
type answer struct {
	results, none string
	e             api.Errno
}

func answered[T any](x T, e api.Errno) answer {
	var zero T
	return answer{fmt.Sprint(x), fmt.Sprint(zero), e}
}

// answeredIf is of a function with a bool that says whether there is a value.
func answeredIf[T any](x T, is bool, e api.Errno) answer {
	var zero T
	if !is && !reflect.DeepEqual(x, zero) {
		return answer{fmt.Sprint(x, is), "a zero value, as there is none", max(e, 1)}
	}
	return answer{fmt.Sprint(x, is), fmt.Sprint(zero, false), e}
}

func answeredRange(low, high int, e api.Errno) answer { return answered([2]int{low, high}, e) }

func answeredBest(n int, x, p []int, e api.Errno) answer {
	return answer{fmt.Sprint(n, x, p), "0 [] []", e}
}

// calls asks every function of the package.
func calls() map[string]func(arguments) answer {
	return map[string]func(arguments) answer{
		"Check":           func(x arguments) answer { return answered(0, flow.Check(x.g)) },
		"Kept":            func(x arguments) answer { return answered(flow.Kept(x.g, x.x)) },
		"Some":            func(x arguments) answer { return answered(flow.Some(x.g)) },
		"Obstacle":        func(x arguments) answer { return answeredIf(flow.Obstacle(x.g)) },
		"CheckObstacle":   func(x arguments) answer { return answered(flow.CheckObstacle(x.g, x.o)) },
		"Sum":             func(x arguments) answer { return answered(flow.Sum(x.g, x.w, x.x)) },
		"Bound":           func(x arguments) answer { return answered(flow.Bound(x.g, x.w, x.p)) },
		"Greatest":        func(x arguments) answer { return answeredBest(flow.Greatest(x.g, x.w)) },
		"Least":           func(x arguments) answer { return answeredBest(flow.Least(x.g, x.w)) },
		"CheckBest":       func(x arguments) answer { return answered(flow.CheckBest(x.g, x.w, x.x, x.p)) },
		"Records":         func(x arguments) answer { return answered(flow.Records(x.g, x.w, x.p)) },
		"ObstacleRecords": func(x arguments) answer { return answered(flow.ObstacleRecords(x.obstructed, x.o)) },
		"Range":           func(x arguments) answer { return answeredRange(flow.Range(x.g, x.arc)) },
		"Through":         func(x arguments) answer { return answeredIf(flow.Through(x.g, x.arc, x.amount)) },
		"Fixed":           func(x arguments) answer { return answered(flow.Fixed(x.g)) },
		"Reach":           func(x arguments) answer { return answered(flow.Reach(x.g, x.x, x.from)) },
		"Circles":         func(x arguments) answer { return answered(flow.Circles(x.g, x.x)) },
		"FromCircles":     func(x arguments) answer { return answered(flow.FromCircles(x.g, x.circles)) },
		"Narrow":          func(x arguments) answer { return answered(flow.Narrow(x.g, x.arc, x.low, x.high, x.record)) },
		"Without":         func(x arguments) answer { return answered(flow.Without(x.g, x.record)) },
		"Join":            func(x arguments) answer { return answered(flow.Join(x.g, x.h)) },
	}
}

// fault makes something of the arguments invalid.
type fault struct {
	do func(x *arguments)
	e  api.Errno
}

// faults returns what can be wrong with arguments, in the order in which that is said.
func faults() ([]string, map[string]fault) {
	order := []string{"nodes", "arcs", "net", "other nodes", "other net", "weights", "weight", "amounts", "amount", "potentials", "potential", "arc", "from", "low", "high", "record", "record 0", "obstacle", "many circles", "circle", "other number", "many arcs", "full", "no circulation", "cut"}
	return order, map[string]fault{
		"nodes":          {func(x *arguments) { x.g.N, x.obstructed.N = 1001, 1001 }, api.ErrLimit},
		"arcs":           {func(x *arguments) { x.g.Arcs, x.obstructed.Arcs = manyArcs(x.g, 4001), manyArcs(x.obstructed, 4001) }, api.ErrLimit},
		"net":            {func(x *arguments) { x.g.Arcs[3].LowBy, x.obstructed.Arcs[3].LowBy = -1, -1 }, api.ErrArg},
		"other nodes":    {func(x *arguments) { x.h.N = 1001 }, api.ErrLimit},
		"other net":      {func(x *arguments) { x.h.Arcs[1].High = -1 }, api.ErrArg},
		"weights":        {func(x *arguments) { x.w = x.w[:3] }, api.ErrArg},
		"weight":         {func(x *arguments) { x.w[2] = 1001 }, api.ErrArg},
		"amounts":        {func(x *arguments) { x.x = append(x.x, 0) }, api.ErrArg},
		"amount":         {func(x *arguments) { x.x[1] = 1000001 }, api.ErrArg},
		"potentials":     {func(x *arguments) { x.p = x.p[:2] }, api.ErrArg},
		"potential":      {func(x *arguments) { x.p[1] = -10000001 }, api.ErrArg},
		"arc":            {func(x *arguments) { x.arc = -1 }, api.ErrArg},
		"from":           {func(x *arguments) { x.from = 4000 }, api.ErrArg},
		"low":            {func(x *arguments) { x.low = -1 }, api.ErrArg},
		"high":           {func(x *arguments) { x.high = 1000001 }, api.ErrArg},
		"record":         {func(x *arguments) { x.record = 1000001 }, api.ErrArg},
		"record 0":       {func(x *arguments) { x.record = min(x.record, 0) }, api.ErrArg},
		"obstacle":       {func(x *arguments) { x.o.Nodes = []int{2, 0} }, api.ErrArg},
		"many circles":   {func(x *arguments) { x.circles = slices.Repeat(x.circles, 4001) }, api.ErrLimit},
		"circle":         {func(x *arguments) { x.circles[0].Amount = 0 }, api.ErrArg},
		"other number":   {func(x *arguments) { x.h.N = 4 }, api.ErrArg},
		"many arcs":      {func(x *arguments) { x.h.Arcs = manyArcs(x.h, 3997) }, api.ErrLimit},
		"full":           {func(x *arguments) { x.circles = append(x.circles, api.Circle{Arcs: []int{2, 0, 1}, Amount: 999999}) }, api.ErrLimit},
		"no circulation": {func(x *arguments) { x.x[3] = 3 }, api.ErrCut},
		"cut":            {func(x *arguments) { x.g.Arcs[3].High, x.g.Arcs[1].High = 1, 0 }, api.ErrCut},
	}
}

// manyArcs returns so many, the first of which are those of a net.
func manyArcs(g api.Net, size int) []api.Arc {
	arcs := make([]api.Arc, size)
	copy(arcs, g.Arcs)
	return arcs
}

// faultsOf returns what can be wrong for each function.
func faultsOf() map[string][]string {
	with := func(more ...string) []string { return append([]string{"nodes", "arcs", "net"}, more...) }
	return map[string][]string{
		"Check": with(), "Kept": with("amounts", "amount"), "Some": with("cut"), "Obstacle": with(), "CheckObstacle": with(), "Sum": with("weights", "weight", "amounts", "amount"), "Bound": with("weights", "weight", "potentials", "potential"),
		"Greatest": with("weights", "weight", "cut"), "Least": with("weights", "weight", "cut"), "CheckBest": with("weights", "weight", "amounts", "amount", "potentials", "potential"), "Records": with("weights", "weight", "potentials", "potential"),
		"ObstacleRecords": with("obstacle"), "Range": with("arc", "cut"), "Through": with("arc"), "Fixed": with("cut"), "Reach": with("amounts", "amount", "from", "no circulation", "cut"), "Circles": with("amounts", "amount", "no circulation", "cut"),
		"FromCircles": with("many circles", "circle", "full"), "Narrow": with("arc", "low", "high", "record"), "Without": with("record", "record 0"), "Join": with("other nodes", "other net", "other number", "many arcs"),
	}
}

// validArguments are arguments with which no function returns an error.
func validArguments(t testing.TB) arguments {
	return arguments{
		g: sample(), h: sample(), obstructed: cutSample(t), w: []int{1, 0, 1, 0}, x: []int{3, 2, 2, 1}, p: []int{1, 2, 3}, o: cut(0, 2), circles: []api.Circle{{Arcs: []int{0, 1, 2}, Amount: 2}},
		arc: 1, from: 2, amount: 1, low: 1, high: 2, record: 3,
	}
}

// What is not said to be wrong for a function is nothing to it; of two faults the first one decides.
func TestErrors(t *testing.T) {
	order, all := faults()
	for name, its := range faultsOf() {
		if got := calls()[name](validArguments(t)); got.e != api.OK {
			t.Errorf("%s: error %d", name, got.e)
		}
		for i, first := range order {
			for _, second := range order[i:] {
				// These undo what was wrong before them.
				if first == "other nodes" && second == "other number" || first == "record" && second == "record 0" {
					continue
				}
				x := validArguments(t)
				all[first].do(&x)
				if second != first {
					all[second].do(&x)
				}
				want := api.OK
				switch {
				case slices.Contains(its, first):
					want = all[first].e
				case slices.Contains(its, second):
					want = all[second].e
				}
				got := calls()[name](x)
				if got.e != want || want != api.OK && got.results != got.none {
					t.Errorf("%s with the faults %q and %q: %.100s, error %d, want error %d", name, first, second, got.results, got.e, want)
				}
			}
		}
	}
}

// odd returns a number, often one that nothing is prepared for.
func odd(r *rand.Rand) int {
	return pick(r, 0, 1, 2, 3, r.IntN(8), -1, math.MinInt, math.MaxInt, math.MinInt+1, math.MaxInt/2+1, 999, 1000, 1001, -1000, -1001, 4000, 1000000, 1000001, 10000000, -10000001, int(r.Uint64()))
}

func oddList(r *rand.Rand) []int {
	var l []int
	for range r.IntN(6) {
		l = append(l, odd(r))
	}
	return l
}

func oddNet(r *rand.Rand) api.Net {
	g := api.Net{N: odd(r)}
	for range r.IntN(6) {
		g.Arcs = append(g.Arcs, api.Arc{From: odd(r), To: odd(r), Low: odd(r), High: odd(r), LowBy: odd(r), HighBy: odd(r)})
	}
	return g
}

func oddCircles(r *rand.Rand) []api.Circle {
	return []api.Circle{{Arcs: oddList(r), Amount: odd(r)}, {Arcs: oddList(r), Amount: 1}}
}

// randomArguments returns arguments of which some are often odd.
func randomArguments(r *rand.Rand) arguments {
	g, given := roundNet(r, 1+r.IntN(6), 1+r.IntN(10), pick(r, 1, 5, 1000000))
	if r.IntN(4) == 0 {
		g = anyNet(r)
		given = randomList(r, len(g.Arcs), 0, 2)
	}
	x := arguments{
		g: g, h: randomArcs(r, g.N, r.IntN(3)), obstructed: g, w: randomWeights(r, g), x: given, p: randomList(r, g.N, -3, 3), arc: r.IntN(max(1, len(g.Arcs))), from: r.IntN(g.N), amount: r.IntN(5), low: r.IntN(3), high: r.IntN(4), record: r.IntN(6),
	}
	if l, e := flow.Circles(g, given); e == api.OK {
		x.circles = l
	}
	if r.IntN(2) == 0 {
		a := api.Arc{From: r.IntN(g.N), To: r.IntN(g.N), Low: 2, High: 1, LowBy: 3, HighBy: 4}
		x.obstructed.Arcs = append(slices.Clone(g.Arcs), a)
		x.o = api.Obstacle{Arc: len(g.Arcs)}
	}
	if r.IntN(3) > 0 {
		return x
	}
	oddities := []func(){
		func() { x.g = oddNet(r) }, func() { x.g.N = odd(r) }, func() { x.g = loops(1+r.IntN(1001), 3999+r.IntN(3)) }, func() { x.h = oddNet(r) }, func() { x.h.N = odd(r) }, func() { x.obstructed = oddNet(r) }, func() { x.w = append(x.w, odd(r)) }, func() { x.w = oddList(r) }, func() { x.x = oddList(r) },
		func() { x.x = append([]int{odd(r)}, x.x[:max(1, len(x.x))-1]...) }, func() { x.p = oddList(r) }, func() { x.p = append([]int{odd(r)}, x.p[:max(1, len(x.p))-1]...) }, func() { x.o = api.Obstacle{Arc: odd(r), Nodes: oddList(r)} }, func() { x.o = cut(oddList(r)...) }, func() { x.circles = oddCircles(r) },
		func() { x.arc = odd(r) }, func() { x.from = odd(r) }, func() { x.amount = odd(r) }, func() { x.low = odd(r) }, func() { x.high = odd(r) }, func() { x.record = odd(r) },
	}
	for range 1 + r.IntN(6) {
		pick(r, oddities...)()
	}
	return x
}

// R1: no call panics. R2: nothing is returned beside an error. R3: no argument is changed. R4: asked again, a function returns the same.
func TestRulesAtRandom(t *testing.T) {
	r := random(61)
	failed, fine := map[string]int{}, map[string]int{}
	all := calls()
	for range 1500 {
		x := randomArguments(r)
		before := fmt.Sprint(x)
		for name, call := range all {
			first := call(x)
			if first.e != api.OK && first.results != first.none {
				t.Errorf("%s(%+v): %s with error %d", name, x, first.results, first.e)
			}
			if again := call(x); again != first {
				t.Errorf("%s(%+v): %+v, then %+v", name, x, first, again)
			}
			if fmt.Sprint(x) != before {
				t.Fatalf("%s changed its arguments from %s to %+v", name, before, x)
			}
			if first.e == api.OK {
				fine[name]++
			} else {
				failed[name]++
			}
		}
	}
	for name := range all {
		if fine[name] < 50 || failed[name] < 50 {
			t.Errorf("%s succeeded %d times, and failed %d times", name, fine[name], failed[name])
		}
	}
}

// R1: all that is odd at once.
func TestOddArguments(t *testing.T) {
	r := random(62)
	for range 5000 {
		x := arguments{
			g: oddNet(r), h: oddNet(r), obstructed: oddNet(r), w: oddList(r), x: oddList(r), p: oddList(r), o: api.Obstacle{Arc: odd(r), Nodes: oddList(r)}, circles: oddCircles(r),
			arc: odd(r), from: odd(r), amount: odd(r), low: odd(r), high: odd(r), record: odd(r),
		}
		if r.IntN(2) == 0 {
			x.g, x.obstructed = sample(), sample()
		}
		for name, call := range calls() {
			if got := call(x); got.e != api.OK && got.results != got.none {
				t.Errorf("%s(%+v): %+v", name, x, got)
			}
		}
	}
}

// R3: results are new memory, also where an argument has room behind its end.
func TestResultsAreNewMemory(t *testing.T) {
	g := sample()
	g.Arcs = append(make([]api.Arc, 0, 50), g.Arcs...)
	w, x := []int{1, 0, 1, 0}, []int{3, 2, 2, 1}
	spoil := func(l []int) {
		for i := range l {
			l[i] = 77
		}
	}
	for range 2 {
		narrower := narrow(t, g, 0, 3, 4, 9)
		without, e := flow.Without(g, 2)
		mustOK(t, "Without", e)
		both, e := flow.Join(g, sample())
		mustOK(t, "Join", e)
		only, e := flow.Join(api.Net{N: 3}, g)
		mustOK(t, "Join", e)
		alone, e := flow.Join(g, api.Net{N: 3})
		mustOK(t, "Join", e)
		for _, h := range []api.Net{narrower, without, both, only, alone} {
			for i := range h.Arcs {
				h.Arcs[i] = api.Arc{}
			}
		}
		if !reflect.DeepEqual(g, sample()) || g.Arcs[:5][4] != (api.Arc{}) {
			t.Fatalf("nets share memory with %v", g)
		}
		_, y, p, e := flow.Greatest(g, w)
		mustOK(t, "Greatest", e)
		_, z, q, e := flow.Least(g, w)
		mustOK(t, "Least", e)
		some, e := flow.Some(g)
		mustOK(t, "Some", e)
		l, e := flow.Circles(g, x)
		mustOK(t, "Circles", e)
		spoil(l[0].Arcs)
		if !round(g, l[1].Arcs) {
			t.Errorf("circles share memory: %v", l)
		}
		sums, e := flow.FromCircles(g, l[1:])
		mustOK(t, "FromCircles", e)
		reach, e := flow.Reach(g, x, 0)
		mustOK(t, "Reach", e)
		for _, list := range [][]int{y, p, z, q, some, sums, reach} {
			spoil(list)
		}
	}
	if !slices.Equal(w, []int{1, 0, 1, 0}) || !slices.Equal(x, []int{3, 2, 2, 1}) {
		t.Errorf("results share memory with arguments: %v, %v", w, x)
	}
	o, _, e := flow.Obstacle(cutSample(t))
	mustOK(t, "Obstacle", e)
	spoil(o.Nodes)
	if o, _, _ := flow.Obstacle(cutSample(t)); !slices.Equal(o.Nodes, []int{0, 2}) {
		t.Errorf("Obstacle: %v", o)
	}
}

// R3: nil and empty slices are equivalent.
func TestNilAndEmpty(t *testing.T) {
	none := arguments{g: api.Net{N: 2}, h: api.Net{N: 2}, obstructed: api.Net{N: 2, Arcs: []api.Arc{{Low: 1}}}, record: 1}
	empty := none
	empty.g.Arcs, empty.h.Arcs, empty.w, empty.x, empty.p, empty.o.Nodes, empty.circles = []api.Arc{}, []api.Arc{}, []int{}, []int{}, []int{}, []int{}, []api.Circle{}
	for name, call := range calls() {
		if x, y := call(none), call(empty); x != y {
			t.Errorf("%s: %+v for nil, %+v for empty slices", name, x, y)
		}
	}
	none.g.Arcs, empty.g.Arcs = sample().Arcs, sample().Arcs
	none.g.N, empty.g.N, none.circles, empty.circles = 3, 3, []api.Circle{{Amount: 1}}, []api.Circle{{Arcs: []int{}, Amount: 1}}
	none.o, empty.o = cut(), api.Obstacle{Arc: -1, Nodes: []int{}}
	for name, call := range calls() {
		if x, y := call(none), call(empty); x != y {
			t.Errorf("%s of no lists: %+v for nil, %+v for empty slices", name, x, y)
		}
	}
}
