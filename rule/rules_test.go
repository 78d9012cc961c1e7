package rule_test

import (
	"fmt"
	"math"
	"math/rand/v2"
	"reflect"
	"slices"
	"strings"
	"testing"

	"couchant/api"
	"couchant/rule"
)

// arguments are all that the functions of the package can be asked with: e is for Holds, number for all others.
type arguments struct {
	number, truth api.Expr
	w             api.Rules
	i, most       int
	p, low, high  api.Plight
	sort, src     string
}

// answer is what a function returns: its results without the error, what these are with an error, and the error.
type answer struct {
	results, none string
	e             api.Errno
}

func answered[T any](x T, e api.Errno) answer {
	var zero T
	return answer{fmt.Sprint(x), fmt.Sprint(zero), e}
}

func answeredLow(x api.Frac, is bool, e api.Errno) answer {
	if !is && x != (api.Frac{}) {
		return answer{fmt.Sprint(x, is), "a zero value, as there is none", max(e, 1)}
	}
	return answer{fmt.Sprint(x, is), fmt.Sprint(api.Frac{}, false), e}
}

func answeredRules(w api.Rules, fault api.Fault) answer {
	return answer{fmt.Sprint(w), fmt.Sprint(api.Rules{}), fault.Err}
}

// calls asks every function of the package.
func calls() map[string]func(arguments) answer {
	return map[string]func(arguments) answer{
		"CheckExpr": func(x arguments) answer { return answered(rule.CheckExpr(x.number)) },
		"Trend":     func(x arguments) answer { return answered(rule.Trend(x.number)) },
		"Low":       func(x arguments) answer { return answeredLow(rule.Low(x.number)) },
		"Value":     func(x arguments) answer { return answered(rule.Value(x.number, x.p)) },
		"Holds":     func(x arguments) answer { return answered(rule.Holds(x.truth, x.p)) },
		"Sorts":     func(x arguments) answer { return answered(rule.Sorts(x.number)) },
		"Check":     func(x arguments) answer { return answered(0, rule.Check(x.w)) },
		"Fine":      func(x arguments) answer { return answered(rule.Fine(x.w, x.i, x.p)) },
		"Total":     func(x arguments) answer { return answered(rule.Total(x.w, x.p)) },
		"Seizes":    func(x arguments) answer { return answered(rule.Seizes(x.w, x.p)) },
		"Judge":     func(x arguments) answer { return answered(rule.Judge(x.w, x.i, x.low, x.high)) },
		"JudgeAll":  func(x arguments) answer { return answered(rule.JudgeAll(x.w, x.low, x.high)) },
		"MaySeize":  func(x arguments) answer { return answered(rule.MaySeize(x.w, x.low, x.high)) },
		"Blames":    func(x arguments) answer { return answered(rule.Blames(x.w, x.i, x.p)) },
		"Spare":     func(x arguments) answer { return answered(rule.Spare(x.w, x.i, x.p, x.sort, x.most)) },
		"Idle":      func(x arguments) answer { return answered(rule.Idle(x.w)) },
		"Parse":     func(x arguments) answer { return answeredRules(rule.Parse(x.src)) },
		"Print":     func(x arguments) answer { return answered(rule.Print(x.w), api.OK) },
	}
}

// takesRules tells whether a function is asked with rules.
func takesRules(name string) bool {
	return !slices.Contains([]string{"CheckExpr", "Trend", "Low", "Value", "Holds", "Sorts", "Parse"}, name)
}

// fault makes something of the arguments invalid.
type fault struct {
	do func(x *arguments)
	e  api.Errno
}

// far is a number that is in range in no plight.
func far() tree { return add(cow, mul(mul(num(1000000), num(1000000)), add(head("mare"), num(2)))) }

// faults returns what can be wrong with arguments, in the order in which that is said.
func faults() ([]string, map[string]fault) {
	order := []string{"nodes", "no nodes", "node", "type within", "type", "fines", "name", "names", "when", "when's trend", "pays", "pays' low", "seize", "index", "plight", "ticks", "stints", "ends", "ends' order", "most", "no herd", "limit", "limit of seize", "source", "line"}
	both := func(do func(api.Expr) api.Expr) func(x *arguments) {
		return func(x *arguments) { x.number, x.truth = do(x.number), do(x.truth) }
	}
	return order, map[string]fault{
		"nodes":    {both(func(e api.Expr) api.Expr { return slices.Repeat(e, 100) }), api.ErrLimit},
		"no nodes": {both(func(api.Expr) api.Expr { return nil }), api.ErrForm},
		"node": {both(func(e api.Expr) api.Expr {
			e[1].B = 7
			return e
		}), api.ErrArg},
		"type within": {both(func(e api.Expr) api.Expr {
			e[len(e)-1].Op = api.OpAnd
			return e
		}), api.ErrType},
		"type":         {func(x *arguments) { x.number, x.truth = x.truth, x.number }, api.ErrType},
		"fines":        {func(x *arguments) { x.w.Fines = slices.Repeat(x.w.Fines, 11) }, api.ErrLimit},
		"name":         {func(x *arguments) { x.w.Fines[0].Name = "use" }, api.ErrForm},
		"names":        {func(x *arguments) { x.w.Fines[1].Name = x.w.Fines[0].Name }, api.ErrTwice},
		"when":         {func(x *arguments) { x.w.Fines[1].When = x.w.Fines[1].When[:2] }, api.ErrArg},
		"when's trend": {func(x *arguments) { x.w.Fines[1].When = less(cow, num(1)).expr() }, api.ErrFalls},
		"pays":         {func(x *arguments) { x.w.Fines[1].Pays = less(num(1), num(2)).expr() }, api.ErrType},
		"pays' low":    {func(x *arguments) { x.w.Fines[1].Pays = sub(cow, num(1)).expr() }, api.ErrFalls},
		"seize":        {func(x *arguments) { x.w.Seize = cow.expr() }, api.ErrType},
		"index":        {func(x *arguments) { x.i = -1 }, api.ErrNone},
		"plight":       {func(x *arguments) { x.p.Herds[1].Number = -1 }, api.ErrArg},
		"ticks":        {func(x *arguments) { x.low.Tick, x.high.Tick = 25, 25 }, api.ErrArg},
		"stints":       {func(x *arguments) { x.low.Stints = whole(-1) }, api.ErrArg},
		"ends":         {func(x *arguments) { x.high.Herds[0].Each = whole(2) }, api.ErrArg},
		"ends' order":  {func(x *arguments) { x.low.Herds[0].Number = x.high.Herds[0].Number + 1 }, api.ErrArg},
		"most":         {func(x *arguments) { x.most = 101 }, api.ErrArg},
		"no herd":      {func(x *arguments) { x.sort = "mare" }, api.ErrNone},
		"limit": {func(x *arguments) {
			x.w.Fines[0].Pays, x.number, x.truth = far().expr(), far().expr(), less(far(), num(1)).expr()
		}, api.ErrLimit},
		"limit of seize": {func(x *arguments) { x.w.Seize = less(num(0), far()).expr() }, api.ErrLimit},
		"source":         {func(x *arguments) { x.src = strings.Repeat("#", 20001) }, api.ErrLimit},
		"line":           {func(x *arguments) { x.src += "fine x" }, api.ErrForm},
	}
}

// faultsOf returns what can be wrong for each function.
func faultsOf() map[string][]string {
	with := func(l []string, more ...string) []string { return append(slices.Clone(l), more...) }
	expr := []string{"nodes", "no nodes", "node", "type within"}
	rules := []string{"fines", "name", "names", "when", "when's trend", "pays", "pays' low", "seize"}
	ends := []string{"ticks", "stints", "ends", "ends' order"}
	return map[string][]string{
		"CheckExpr": expr, "Trend": expr, "Low": expr, "Sorts": expr, "Value": with(expr, "type", "plight", "limit"), "Holds": with(expr, "type", "plight", "limit"),
		"Check": rules, "Fine": with(rules, "index", "plight", "limit"), "Total": with(rules, "plight", "limit"), "Seizes": with(rules, "plight", "limit of seize"),
		"Judge": append(with(rules, "index", "limit"), ends...), "JudgeAll": append(with(rules, "limit"), ends...), "MaySeize": append(with(rules, "limit of seize"), ends...),
		"Blames": with(rules, "index", "plight", "limit"), "Spare": with(rules, "index", "plight", "most", "no herd", "limit"), "Idle": rules, "Parse": {"source", "line"}, "Print": nil,
	}
}

// validArguments are arguments with which no function returns an error.
func validArguments(t testing.TB) arguments {
	t.Helper()
	return arguments{number: add(cow, sheep).expr(), truth: less(cow, sheep).expr(), w: copyOf(sample(t)), i: 0, most: 10, p: plight(4, 6), low: plight(4, 4), high: plight(4, 8), sort: "sheep", src: "fine a when cow > 3 pays 1\n"}
}

// undoes tells whether a fault cannot be beside one before it, or mends it.
func undoes(first, second string) bool {
	of := func(name string, l ...string) bool { return slices.Contains(l, name) }
	switch {
	case first == "no nodes", first == "nodes" && second == "no nodes", of(second, "limit") && of(first, "nodes", "node", "type within", "type"):
		return of(second, "no nodes", "node", "type within", "limit") && first != second
	case second == "fines" || first == "fines" && of(second, "name", "names", "when", "when's trend", "pays", "pays' low"):
		return false
	case first == "name" && second == "names":
		return true
	case of(first, "when", "when's trend") && of(second, "when's trend"), of(first, "pays", "pays' low") && of(second, "pays' low"):
		return first != second
	}
	return first == "seize" && second == "limit of seize" || first == "source" && second == "line"
}

// R1, R2: what is not said to be wrong for a function is nothing to it; of two faults the first one decides.
func TestErrors(t *testing.T) {
	order, all := faults()
	for name, its := range faultsOf() {
		if got := calls()[name](validArguments(t)); got.e != api.OK {
			t.Errorf("%s: error %d", name, got.e)
		}
		for i, first := range order {
			for _, second := range order[i:] {
				if undoes(first, second) {
					continue
				}
				x := validArguments(t)
				all[first].do(&x)
				if second != first {
					all[second].do(&x)
				}
				want := api.OK
				switch {
				case slices.Contains(its, first):
					want = all[first].e
				case slices.Contains(its, second):
					want = all[second].e
				}
				got := calls()[name](x)
				if got.e != want || want != api.OK && got.results != got.none {
					t.Errorf("%s with the faults %q and %q: %.100s, error %d, want error %d", name, first, second, got.results, got.e, want)
				}
			}
		}
	}
}

// odd returns a number, often one that nothing is prepared for.
func odd(r *rand.Rand) int {
	return pick(r, 0, 1, 2, 3, r.IntN(8), -1, -2, math.MinInt, math.MaxInt, math.MinInt+1, math.MaxInt/2+1, 7, 16, 17, 24, 25, 100, 101, 100000, 100001, 1000000, 1000001, 999999999, 1000000000, 1000000000000, 1000000000001, int(r.Uint64()))
}

func oddName(r *rand.Rand) string {
	return pick(r, "", "cow", "sheep", "Cow", "a\n", "\xff", "cow ", "abcdefghijklmnopqrstuvwxy", "-", "use", "fine")
}

func oddFrac(r *rand.Rand) api.Frac {
	return pick(r, f(odd(r), odd(r)), f(odd(r), 1), whole(1), f(1, 2))
}

func oddExpr(r *rand.Rand) api.Expr {
	var e api.Expr
	for range r.IntN(6) {
		e = append(e, api.Node{Op: uint8(odd(r)), A: odd(r), B: odd(r), Num: oddFrac(r), Name: oddName(r)})
	}
	return e
}

func oddPlight(r *rand.Rand) api.Plight {
	p := api.Plight{Tick: odd(r), Stints: oddFrac(r)}
	for range r.IntN(15) {
		p.Herds = append(p.Herds, api.Herd{Sort: oddName(r), Number: odd(r), Each: oddFrac(r)})
	}
	return p
}

func oddRules(r *rand.Rand) api.Rules {
	w := api.Rules{Seize: oddExpr(r)}
	for range r.IntN(4) {
		w.Fines = append(w.Fines, api.Fine{Name: oddName(r), When: oddExpr(r), Pays: oddExpr(r)})
	}
	return w
}

func oddSource(r *rand.Rand) string {
	var s strings.Builder
	for range r.IntN(30) {
		s.WriteString(pick(r, "fine", "seize", "when", "pays", "a", "cow", "use", "stints", "1", "7/2", "+", "-", "*", "<", "<=", "=", ">", "(", ")", ",", "min(", "max", "and", "or", "not", "#", "\n", "\x00", "\xff", " ", " ", " "))
		s.WriteString(pick(r, "", " "))
	}
	return s.String()
}

// randomArguments returns arguments of which some are often odd.
func randomArguments(r *rand.Rand) arguments {
	x := arguments{number: randomNumber(r, 3).expr(), truth: randomTruth(r, 3).expr(), w: randomRules(r, 3, 2), most: r.IntN(20), p: randomPlight(r, 20)}
	x.i = r.IntN(len(x.w.Fines) + 1)
	x.low, x.high = x.p, withMore(r, x.p, 3)
	x.sort = pick(r, append(names(), "cow", "sheep")...)
	if len(x.p.Herds) > 0 {
		x.sort = pick(r, x.p.Herds...).Sort
	}
	x.src = rule.Print(x.w)
	if r.IntN(3) > 0 {
		return x
	}
	oddities := []func(){
		func() { x.number = oddExpr(r) }, func() { x.truth = oddExpr(r) }, func() { x.number = spoilt(r, x.number) }, func() { x.truth = spoilt(r, x.truth) }, func() { x.w = oddRules(r) }, func() { x.w.Fines = append(x.w.Fines, oddRules(r).Fines...) }, func() { x.w.Seize = oddExpr(r) }, func() { x.w.Seize = randomTruth(r, 2).expr() },
		func() { x.i = odd(r) }, func() { x.most = odd(r) }, func() { x.p = oddPlight(r) }, func() { x.low = oddPlight(r) }, func() { x.high = oddPlight(r) }, func() { x.p.Tick = odd(r) }, func() { x.high.Stints = oddFrac(r) }, func() { x.sort = oddName(r) }, func() { x.src = oddSource(r) }, func() { x.src += oddSource(r) },
	}
	for range 1 + r.IntN(5) {
		pick(r, oddities...)()
	}
	return x
}

// R1: no call panics. R2: nothing is returned beside an error. R3: no argument is changed. R4: asked again, a function returns the same.
func TestRulesAtRandom(t *testing.T) {
	r := random(61)
	failed, fine := map[string]int{}, map[string]int{}
	all := calls()
	for range 3000 {
		x := randomArguments(r)
		before := fmt.Sprint(x)
		for name, call := range all {
			first := call(x)
			if first.e != api.OK && first.results != first.none {
				t.Errorf("%s(%+v): %s with error %d", name, x, first.results, first.e)
			}
			if again := call(x); again != first {
				t.Errorf("%s(%+v): %+v, then %+v", name, x, first, again)
			}
			if fmt.Sprint(x) != before {
				t.Fatalf("%s changed its arguments from %s to %+v", name, before, x)
			}
			if first.e == api.OK {
				fine[name]++
			} else {
				failed[name]++
			}
		}
	}
	for name := range all {
		if fine[name] < 100 || failed[name] < 50 && name != "Print" {
			t.Errorf("%s succeeded %d times, and failed %d times", name, fine[name], failed[name])
		}
	}
}

// R1: all that is odd at once.
func TestOddArguments(t *testing.T) {
	r := random(62)
	for range 10000 {
		x := arguments{number: oddExpr(r), truth: oddExpr(r), w: oddRules(r), i: odd(r), most: odd(r), p: oddPlight(r), low: oddPlight(r), high: oddPlight(r), sort: oddName(r), src: oddSource(r)}
		if r.IntN(2) == 0 {
			x.w, x.number, x.truth = sample(t), cow.expr(), less(cow, use).expr()
		}
		for name, call := range calls() {
			if got := call(x); got.e != api.OK && got.results != got.none {
				t.Errorf("%s(%+v): %+v", name, x, got)
			}
		}
	}
}

// R3: results are new memory, also among themselves.
func TestResultsAreNewMemory(t *testing.T) {
	w, p := sample(t), plight(4, 6)
	src := rule.Print(w)
	e := add(sheep, cow).expr()
	want := ""
	for range 3 {
		sorts, err := rule.Sorts(e)
		mustOK(t, "Sorts", err)
		blames, err := rule.Blames(w, 0, p)
		mustOK(t, "Blames", err)
		idle, err := rule.Idle(parsed(t, "fine a when 2 < 1 pays cow", "fine b when 2 < 1 pays cow"))
		mustOK(t, "Idle", err)
		verdicts, err := rule.JudgeAll(w, p, plight(5, 8))
		mustOK(t, "JudgeAll", err)
		read, _ := rule.Parse(src)
		got := fmt.Sprint(sorts, blames, idle, verdicts, read)
		if want != "" && got != want {
			t.Fatalf("results share memory: %s, first %s", got, want)
		}
		want = got
		sorts[0], blames[0], idle[0], verdicts[0] = "x", "x", 77, api.Verdict{Kind: 77}
		// A node behind the end of one expression is none of another one.
		other := copyOf(read)
		for i := range read.Fines {
			_ = append(append(read.Fines[i].When, api.Node{Op: 77}), api.Node{Op: 77})
			_ = append(append(read.Fines[i].Pays, api.Node{Op: 77}), api.Node{Op: 77})
		}
		_ = append(read.Seize, api.Node{Op: 77})
		if !areSame(read, other) {
			t.Errorf("expressions of Parse share memory: %v", read)
		}
		read.Fines[0].When[0], read.Fines[1].Pays[0], read.Seize[0] = api.Node{}, api.Node{}, api.Node{}
		if !slices.Equal(read.Fines[0].Pays, other.Fines[0].Pays) || !slices.Equal(read.Fines[1].When, other.Fines[1].When) {
			t.Errorf("expressions of Parse share memory: %v", read)
		}
		read.Fines[0] = api.Fine{}
	}
	if !areSame(w, sample(t)) || !reflect.DeepEqual(p, plight(4, 6)) || !slices.Equal(e, add(sheep, cow).expr()) {
		t.Errorf("results share memory with arguments: %v, %v, %v", w, p, e)
	}
}

// R3: nil and empty slices are equivalent.
func TestNilAndEmpty(t *testing.T) {
	none := arguments{w: api.Rules{Fines: []api.Fine{fine("a", less(num(1), num(2)), num(1))}}, p: api.Plight{Stints: whole(0)}, low: api.Plight{Stints: whole(0)}, high: api.Plight{Stints: whole(0)}}
	empty := none
	empty.number, empty.truth, empty.w.Seize = api.Expr{}, api.Expr{}, api.Expr{}
	empty.p.Herds, empty.low.Herds = []api.Herd{}, []api.Herd{}
	for name, call := range calls() {
		if x, y := call(none), call(empty); x != y {
			t.Errorf("%s: %+v for nil, %+v for empty slices", name, x, y)
		}
		none, empty := none, empty
		none.w.Fines, empty.w.Fines = nil, []api.Fine{}
		if x, y := call(none), call(empty); x != y {
			t.Errorf("%s: %+v for nil, %+v for empty slices", name, x, y)
		}
	}
}
