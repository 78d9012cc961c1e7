package share_test

import (
	"fmt"
	"math"
	"math/rand/v2"
	"slices"
	"testing"

	"couchant/api"
	"couchant/share"
)

// arguments are all that the functions of the package can be asked with.
type arguments struct {
	a, b       api.Frac
	fracs      []api.Frac
	l          []api.Equal
	x          api.Equal
	sort, to   string
	day, known int
	n          int
	heads      []api.Head
	parts      []int
	line       string
}

// answer is what a function returns: its results without the error, what these are with an error, and the error.
type answer struct {
	results, none string
	e             api.Errno
}

func answered[T any](x T, e api.Errno) answer {
	var zero T
	return answer{fmt.Sprint(x), fmt.Sprint(zero), e}
}

func told[T any](x T) answer { return answered(x, api.OK) }

// calls asks every function of the package.
func calls() map[string]func(arguments) answer {
	return map[string]func(arguments) answer{
		"Norm":       func(x arguments) answer { return answered(share.Norm(x.day, x.known)) },
		"Add":        func(x arguments) answer { return answered(share.Add(x.a, x.b)) },
		"Sub":        func(x arguments) answer { return answered(share.Sub(x.a, x.b)) },
		"Mul":        func(x arguments) answer { return answered(share.Mul(x.a, x.b)) },
		"Sum":        func(x arguments) answer { return answered(share.Sum(x.fracs)) },
		"Compare":    func(x arguments) answer { return told(share.Compare(x.a, x.b)) },
		"Floor":      func(x arguments) answer { return told(share.Floor(x.a)) },
		"Ceil":       func(x arguments) answer { return told(share.Ceil(x.a)) },
		"CheckEqual": func(x arguments) answer { return told(share.CheckEqual(x.x)) },
		"Check":      func(x arguments) answer { at, e := share.Check(x.l); return told(fmt.Sprint(at, e)) },
		"Append":     func(x arguments) answer { return answered(share.Append(x.l, x.x)) },
		"Of":         func(x arguments) answer { return answered(share.Of(x.l, x.sort, x.day, x.known)) },
		"Sorts":      func(x arguments) answer { return told(share.Sorts(x.l, x.day, x.known)) },
		"Turns":      func(x arguments) answer { return told(share.Turns(x.l, x.sort, x.known)) },
		"Reached":    func(x arguments) answer { return answered(share.Reached(x.l, x.x)) },
		"Uses":       func(x arguments) answer { return answered(share.Uses(x.l, x.heads, x.day, x.known)) },
		"Excess":     func(x arguments) answer { return answered(share.Excess(x.l, x.heads, x.a, x.day, x.known)) },
		"Most":       func(x arguments) answer { return answered(share.Most(x.l, x.sort, x.a, x.day, x.known)) },
		"Exchange":   func(x arguments) answer { return answered(share.Exchange(x.l, x.sort, x.to, x.n, x.day, x.known)) },
		"Fill":       func(x arguments) answer { return answered(share.Fill(x.l, x.heads, x.a, x.day, x.known)) },
		"Divide":     func(x arguments) answer { return answered(share.Divide(x.a, x.parts)) },
		"Whole":      func(x arguments) answer { return answered(share.Whole(x.n, x.parts)) },
		"Write":      func(x arguments) answer { return answered(share.Write(x.x)) },
		"Read":       func(x arguments) answer { return answered(share.Read(x.line)) },
	}
}

// odd returns a number, often one that nothing is prepared for.
func odd(r *rand.Rand) int {
	return pick(r, 0, 1, 2, 3, r.IntN(8), -1, math.MinInt, math.MaxInt, math.MinInt+1, api.MaxDay, api.MaxDay+1, api.MaxId, api.MaxNum, api.MaxNum+1, int(r.Uint64()))
}

func oddSort(r *rand.Rand) string {
	return pick(r, "cow", "ewe", "ewe-1", "ass", "", "Cow", "\xff\x00", "é")
}

func oddFrac(r *rand.Rand) api.Frac {
	return pick(r, f(odd(r), odd(r)), randomFrac(r), f(r.IntN(9), 1))
}

func oddEqual(r *rand.Rand) api.Equal {
	return pick(r,
		api.Equal{Id: odd(r), Known: odd(r), From: odd(r), Sort: oddSort(r), Stints: oddFrac(r), Of: odd(r)},
		equal(r.IntN(50), 12+r.IntN(4), oddSort(r), r.IntN(9), 1, 2),
		void(r.IntN(50), 12+r.IntN(4), r.IntN(50)))
}

// several returns up to n items.
func several[T any](r *rand.Rand, n int, item func(*rand.Rand) T) []T {
	var l []T
	for range r.IntN(n + 1) {
		l = append(l, item(r))
	}
	return l
}

func randomArguments(r *rand.Rand) arguments {
	x := arguments{
		a: oddFrac(r), b: oddFrac(r), fracs: several(r, 4, oddFrac), l: several(r, 3, oddEqual), x: oddEqual(r),
		sort: oddSort(r), to: oddSort(r), day: odd(r), known: odd(r), n: pick(r, odd(r), r.IntN(100)),
		heads: several(r, 3, func(r *rand.Rand) api.Head { return head(oddSort(r), pick(r, odd(r), r.IntN(100))) }),
		parts: several(r, 4, func(r *rand.Rand) int { return pick(r, odd(r), r.IntN(9), r.IntN(9), r.IntN(9)) }),
		line:  pick(r, "", "1 0 void 1", "1 0 equal cow 0 1 2", "\xff \xff \xff \xff", "1 0 equal cow 0 1 0", "- - - - - - -", "1 2 3 4 5 6 7 8"),
	}
	if r.IntN(2) == 0 {
		x.l = randomTable(r, 1+r.IntN(8))
	}
	return x
}

// R1: no call panics. R2: nothing is returned beside an error. R3: no argument is changed. R4: asked again, a function returns the same.
func TestRulesAtRandom(t *testing.T) {
	r := random(51)
	errors, fine := map[string]int{}, map[string]int{}
	all := calls()
	for range 3000 {
		x := randomArguments(r)
		before := fmt.Sprint(x)
		for name, call := range all {
			first := call(x)
			if first.e != api.OK && first.results != first.none {
				t.Errorf("%s(%+v): %s with error %d", name, x, first.results, first.e)
			}
			if again := call(x); again != first {
				t.Errorf("%s(%+v): %+v, then %+v", name, x, first, again)
			}
			if fmt.Sprint(x) != before {
				t.Fatalf("%s changed its arguments from %s to %+v", name, before, x)
			}
			if first.e == api.OK {
				fine[name]++
			} else {
				errors[name]++
			}
		}
	}
	for name := range all {
		if fine[name] < 20 {
			t.Errorf("%s succeeded only %d times", name, fine[name])
		}
	}
	for _, name := range []string{"Norm", "Add", "Sub", "Mul", "Sum", "Append", "Of", "Reached", "Uses", "Excess", "Most", "Exchange", "Fill", "Divide", "Whole", "Write", "Read"} {
		if errors[name] < 20 {
			t.Errorf("%s failed only %d times", name, errors[name])
		}
	}
}

// R3: results are new memory, also where an argument has room behind its end.
func TestResultsAreNewMemory(t *testing.T) {
	room := make([]api.Equal, 0, 10)
	l := append(room, sample()...)
	goat, ass := equal(6, 20, "goat", 0, 1, 3), equal(6, 20, "ass", 0, 1, 2)
	first, e := share.Append(l, goat)
	mustOK(t, "Append", e)
	second, e := share.Append(l, ass)
	mustOK(t, "Append", e)
	if first[5] != goat || second[5] != ass || l[:6][5] != (api.Equal{}) {
		t.Errorf("Append wrote behind the end of its argument: %v, %v, %v", first[5], second[5], l[:6][5])
	}
	first[0].Sort = "changed"
	if l[0].Sort != "cow" || second[0].Sort != "cow" {
		t.Error("what Append returns shares memory with its argument")
	}
	if _, e := share.Reached(l, goat); e != api.OK || l[:6][5] != (api.Equal{}) {
		t.Errorf("Reached wrote behind the end of its argument: %v, error %d", l[:6][5], e)
	}

	wants := []api.Head{head("cow", 2)}
	filled, e := share.Fill(l, wants, f(9, 1), 0, 0)
	mustOK(t, "Fill", e)
	filled[0].Number = 77
	if wants[0].Number != 2 {
		t.Error("what Fill returns shares memory with its argument")
	}

	parts := []int{1, 1}
	shares, e := share.Whole(2, parts)
	mustOK(t, "Whole", e)
	shares[0] = 77
	if parts[0] != 1 {
		t.Error("what Whole returns shares memory with its argument")
	}
	for range 2 {
		sorts, turns := share.Sorts(l, 0, 0), share.Turns(l, "sheep", 15)
		if !slices.Equal(sorts, []string{"couple", "cow", "sheep"}) || !slices.Equal(turns, []int{0, 100}) {
			t.Errorf("Sorts and Turns: %v, %v", sorts, turns)
		}
		sorts[0], turns[0] = "changed", 77
	}
}

// R3: nil and empty slices are equivalent.
func TestNilAndEmpty(t *testing.T) {
	none := arguments{a: f(1, 2), b: f(1, 3), x: equal(1, 0, "cow", 0, 1, 1), sort: "cow", to: "ewe", line: "1 0 void 1"}
	empty := none
	empty.fracs, empty.l, empty.heads, empty.parts = []api.Frac{}, []api.Equal{}, []api.Head{}, []int{}
	for name, call := range calls() {
		if x, y := call(none), call(empty); x != y {
			t.Errorf("%s: %+v for nil, %+v for empty slices", name, x, y)
		}
	}
}

// DOC.md, section Errors.
func TestErrorNumbers(t *testing.T) {
	want := []api.Errno{0, 1, 2, 3, 4, 5, 6, 7, 8, 10, 11, 20, 30, 40, 50, 60, 70, 71, 80, 81, 90, 91, 92, 93, 94, 100, 101, 102, 103, 104}
	got := []api.Errno{
		api.OK, api.ErrArg, api.ErrLimit, api.ErrNil, api.ErrForm, api.ErrNone, api.ErrTwice, api.ErrTime, api.ErrState,
		api.ErrSort, api.ErrParts, api.ErrPoor, api.ErrClaim, api.ErrContrary, api.ErrPlace, api.ErrCut, api.ErrDoubt, api.ErrFar, api.ErrType, api.ErrFalls,
		api.ErrDown, api.ErrSpoilt, api.ErrFull, api.ErrHeld, api.ErrHome, api.ErrLink, api.ErrEarly, api.ErrLate, api.ErrSame, api.ErrProof,
	}
	if !slices.Equal(got, want) {
		t.Errorf("error numbers: %v", got)
	}
}
