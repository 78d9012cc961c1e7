package tally_test

import (
	"fmt"
	"math"
	"math/rand/v2"
	"slices"
	"testing"

	"couchant/api"
	"couchant/tally"
)

// arguments are all that the functions of the package can be asked with.
type arguments struct {
	r, wide         api.Rate
	n, c            int
	count           api.Count
	a, b            api.Interval
	list            []api.Interval
	rates           []api.Rate
	counts          []api.Count
	recounts        []api.Recount
	shepherd, known int
	x               api.Recount
	line            string
}

// answer is what a function returns: its results without the error, what these are with an error, and the error.
type answer struct {
	results, none string
	e             api.Errno
}

func answered[T any](x T, e api.Errno) answer {
	var zero T
	return answer{fmt.Sprint(x), fmt.Sprint(zero), e}
}

func answeredTwo[T, U any](x T, y U, e api.Errno) answer {
	var zero T
	var none U
	return answer{fmt.Sprint(x, y), fmt.Sprint(zero, none), e}
}

// answeredIf is of a function that tells whether there is a value.
func answeredIf[T any](x T, some bool) answer {
	if some {
		return answered(x, api.OK)
	}
	return answered(x, api.ErrNone)
}

// answeredAt is of a function whose first result tells where the error is.
func answeredAt(at int, e api.Errno) answer {
	text := fmt.Sprint(at)
	if e == api.OK {
		return answer{text, "0", e}
	}
	return answer{text, text, e}
}

// calls asks every function of the package.
func calls() map[string]func(arguments) answer {
	return map[string]func(arguments) answer{
		"CheckRate":     func(x arguments) answer { return answered(0, tally.CheckRate(x.r)) },
		"CheckCount":    func(x arguments) answer { return answered(0, tally.CheckCount(x.count)) },
		"CheckRecounts": func(x arguments) answer { return answeredAt(tally.CheckRecounts(x.recounts)) },
		"Fits":          func(x arguments) answer { return answered(tally.Fits(x.r, x.n, x.c)) },
		"Shown":         func(x arguments) answer { return answeredTwo(tally.Shown(x.r, x.n)) },
		"True":          func(x arguments) answer { return answered(tally.True(x.r, x.c)) },
		"OfCount":       func(x arguments) answer { return answered(tally.OfCount(x.r, x.count)) },
		"Gathered":      func(x arguments) answer { return answered(tally.Gathered(x.r, x.count)) },
		"Both":          func(x arguments) answer { both := tally.Both(x.a, x.b); return answeredIf(both, both.Some) },
		"Sum":           func(x arguments) answer { return answered(tally.Sum(x.list)) },
		"Less":          func(x arguments) answer { less := tally.Less(x.a, x.b); return answeredIf(less, less.Some) },
		"Passage":       func(x arguments) answer { return answeredTwo(tally.Passage(x.rates, x.counts)) },
		"Misses":        func(x arguments) answer { return answeredIf(tally.Misses(x.n, x.c)) },
		"Doubles":       func(x arguments) answer { return answeredIf(tally.Doubles(x.n, x.c)) },
		"Counting":      func(x arguments) answer { return answered(tally.Counting(x.recounts, x.known), api.OK) },
		"RateOf":        func(x arguments) answer { return answered(tally.RateOf(x.r, x.recounts, x.shepherd, x.known)) },
		"Why":           func(x arguments) answer { return answered(tally.Why(x.r, x.recounts, x.shepherd, x.known)) },
		"Wrong":         func(x arguments) answer { return answered(tally.Wrong(x.r, x.recounts, x.shepherd, x.known)) },
		"Narrower":      func(x arguments) answer { return answeredIf(false, tally.Narrower(x.r, x.wide)) },
		"Write":         func(x arguments) answer { return answered(tally.Write(x.count)) },
		"Read":          func(x arguments) answer { return answered(tally.Read(x.line)) },
		"WriteRecount":  func(x arguments) answer { return answered(tally.WriteRecount(x.x)) },
		"ReadRecount":   func(x arguments) answer { return answered(tally.ReadRecount(x.line)) },
	}
}

// odd returns a number, often one that nothing is prepared for.
func odd(r *rand.Rand) int {
	return pick(r, 0, 1, 2, 3, r.IntN(8), -1, math.MinInt, math.MaxInt, math.MinInt+1, math.MaxInt/1000, math.MaxInt/500+1, 40, 41, 500, 501, 10001, api.MaxBeasts+1, 200001, 100000001, int(r.Uint64()))
}

func oddRate(r *rand.Rand) api.Rate { return rate(odd(r), odd(r)) }

func oddCount(r *rand.Rand) api.Count {
	return api.Count{Id: odd(r), Day: odd(r), Shepherd: odd(r), Number: odd(r), Worn: odd(r)}
}

func oddInterval(r *rand.Rand) api.Interval {
	return api.Interval{Low: odd(r), High: odd(r), Some: r.IntN(3) > 0}
}

func oddRecount(r *rand.Rand) api.Recount {
	return api.Recount{Id: odd(r), Day: odd(r), Known: odd(r), Shepherd: odd(r), True: odd(r), Number: odd(r)}
}

// randomArguments returns arguments of which some are often odd.
func randomArguments(r *rand.Rand) arguments {
	n := randomNumber(r, api.MaxBeasts)
	a := randomRate(r)
	x := arguments{
		r: a, wide: wider(r, a), n: max(n, 1), c: honest(r, a, max(n, 1)), count: randomCount(r), a: randomInterval(r, 9), b: randomInterval(r, 9),
		recounts: randomRecounts(r, 6, false), shepherd: r.IntN(shepherds + 1), known: r.IntN(8),
		x: api.Recount{Id: 1, Shepherd: 1, True: 1 + r.IntN(9)}, line: pick(r, "1 2 3 4 5", "1 2 3 4 5 6"),
	}
	x.rates, x.counts = passing(r, n)
	for range r.IntN(5) {
		x.list = append(x.list, randomInterval(r, 100))
	}
	if r.IntN(3) > 0 {
		return x
	}
	oddities := []func(){
		func() { x.r = oddRate(r) }, func() { x.wide = oddRate(r) }, func() { x.n = odd(r) }, func() { x.c = odd(r) }, func() { x.count = oddCount(r) },
		func() { x.a = oddInterval(r) }, func() { x.b = oddInterval(r) }, func() { x.list = append(x.list, oddInterval(r)) },
		func() { x.rates = append(x.rates, oddRate(r)) }, func() { x.counts = append(x.counts, oddCount(r)) },
		func() { x.recounts = append(x.recounts, oddRecount(r), oddRecount(r)) }, func() { x.recounts = many(pick(r, 199, 200, 201, 300)) },
		func() { x.shepherd = odd(r) }, func() { x.known = odd(r) }, func() { x.x = oddRecount(r) },
		func() { x.line = pick(r, "", "1 0 0", "\xff \xff", "- - - - -", "    ", "     ", "1 2 3 4 -5") },
	}
	for range 1 + r.IntN(6) {
		pick(r, oddities...)()
	}
	return x
}

// R1: no call panics. R2: nothing is returned beside an error. R3: no argument is changed. R4: asked again, a function returns the same.
func TestRulesAtRandom(t *testing.T) {
	r := random(51)
	failed, fine := map[string]int{}, map[string]int{}
	all := calls()
	for range 4000 {
		x := randomArguments(r)
		before := fmt.Sprint(x)
		for name, call := range all {
			first := call(x)
			if first.e != api.OK && first.results != first.none {
				t.Errorf("%s(%+v): %s with error %d", name, x, first.results, first.e)
			}
			if again := call(x); again != first {
				t.Errorf("%s(%+v): %+v, then %+v", name, x, first, again)
			}
			if fmt.Sprint(x) != before {
				t.Fatalf("%s changed its arguments from %s to %+v", name, before, x)
			}
			if first.e == api.OK {
				fine[name]++
			} else {
				failed[name]++
			}
		}
	}
	for name := range all {
		if fine[name] < 50 || failed[name] < 50 && name != "Counting" {
			t.Errorf("%s succeeded %d times, and failed %d times", name, fine[name], failed[name])
		}
	}
}

// R1: all that is odd at once.
func TestOddArguments(t *testing.T) {
	r := random(52)
	for range 4000 {
		x := arguments{
			r: oddRate(r), wide: oddRate(r), n: odd(r), c: odd(r), count: oddCount(r), a: oddInterval(r), b: oddInterval(r), list: []api.Interval{oddInterval(r), oddInterval(r)},
			rates: []api.Rate{oddRate(r), oddRate(r)}, counts: []api.Count{oddCount(r), oddCount(r)}, recounts: []api.Recount{oddRecount(r), oddRecount(r)}, shepherd: odd(r), known: odd(r), x: oddRecount(r),
		}
		for name, call := range calls() {
			if got := call(x); got.e != api.OK && got.results != got.none {
				t.Errorf("%s(%+v): %+v", name, x, got)
			}
		}
	}
}

// R3: results are new memory, also where an argument has room behind its end.
func TestResultsAreNewMemory(t *testing.T) {
	l := append(make([]api.Recount, 0, 20), sample(t)...)
	got := tally.Counting(l, 100)
	got[0].Id, got[6].Number = 77, 77
	if longer := append(got[:2], api.Recount{Id: 78}); !slices.Equal(l, sample(t)) || len(longer) != 3 {
		t.Errorf("what Counting returns shares memory with its argument: %v", l)
	}
	if again := tally.Counting(l, 100); !slices.Equal(again, sample(t)) {
		t.Errorf("Counting, after a result was changed: %v", again)
	}
	for range 2 {
		ids, e := tally.Why(rate(0, 0), l, 1, 9)
		if !slices.Equal(ids, []int{2, 7}) || e != api.OK {
			t.Errorf("Why: %v, error %d", ids, e)
		}
		ids[0] = 77
		ids, e = tally.Wrong(rate(0, 0), l, 1, 0)
		if !slices.Equal(ids, []int{1, 2}) || e != api.OK {
			t.Errorf("Wrong: %v, error %d", ids, e)
		}
		ids[0] = 77
		_, apart, e := tally.Passage([]api.Rate{{}, {}}, []api.Count{counted(5, 0), counted(6, 0)})
		if !slices.Equal(apart, []int{0, 1}) || e != api.OK {
			t.Errorf("Passage: %v, error %d", apart, e)
		}
		apart[0] = 77
	}
}

// R3: nil and empty slices are equivalent.
func TestNilAndEmpty(t *testing.T) {
	empty := arguments{list: []api.Interval{}, rates: []api.Rate{}, counts: []api.Count{}, recounts: []api.Recount{}}
	for name, call := range calls() {
		if x, y := call(arguments{}), call(empty); x != y {
			t.Errorf("%s: %+v for nil, %+v for empty slices", name, x, y)
		}
	}
}
