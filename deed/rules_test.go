package deed_test

import (
	"fmt"
	"math"
	"math/rand/v2"
	"slices"
	"testing"

	"couchant/api"
	"couchant/deed"
)

// arguments are all that the functions of the package can be asked with.
type arguments struct {
	l                 []api.Deed
	x                 api.Deed
	known, day, owner int
	ids               []int
	line              string
}

// answer is what a function returns: its results without the error, what these are with an error, and the error.
type answer struct {
	results, none string
	e             api.Errno
}

func answered[T any](x T, e api.Errno) answer {
	var zero T
	return answer{fmt.Sprint(x), fmt.Sprint(zero), e}
}

func told(x ...any) answer { return answer{results: fmt.Sprint(x...)} }

// calls asks every function of the package.
func calls() map[string]func(arguments) answer {
	return map[string]func(arguments) answer{
		"CheckDeed": func(x arguments) answer { return told(deed.CheckDeed(x.x)) },
		"Check":     func(x arguments) answer { return told(deed.Check(x.l)) },
		"Append":    func(x arguments) answer { return answered(deed.Append(x.l, x.x)) },
		"Counting":  func(x arguments) answer { return told(deed.Counting(x.l, x.known)) },
		"Idle":      func(x arguments) answer { return told(deed.Idle(x.l, x.known)) },
		"Late":      func(x arguments) answer { return told(deed.Late(x.l)) },
		"Accounts":  func(x arguments) answer { return told(deed.Accounts(x.l, x.known, x.day)) },
		"AccountOf": func(x arguments) answer { return told(deed.AccountOf(x.l, x.known, x.day, x.owner)) },
		"Uses":      func(x arguments) answer { return told(deed.Uses(x.l, x.known, x.day, x.owner)) },
		"Free":      func(x arguments) answer { return told(deed.Free(x.l, x.known, x.day, x.owner)) },
		"Total":     func(x arguments) answer { return told(deed.Total(x.l, x.known, x.day)) },
		"Leases":    func(x arguments) answer { return told(deed.Leases(x.l, x.known, x.day)) },
		"Pledges":   func(x arguments) answer { return told(deed.Pledges(x.l, x.known, x.day)) },
		"Possible":  func(x arguments) answer { return answered(0, deed.Possible(x.l, x.known, x.x)) },
		"Lineage":   func(x arguments) answer { return told(deed.Lineage(x.l, x.known, x.day, x.owner)) },
		"Only":      func(x arguments) answer { return told(deed.Only(x.l, x.known, x.day, x.ids)) },
		"Moves":     func(x arguments) answer { return told(deed.Moves(x.l, x.known, x.day, x.owner)) },
		"Touched":   func(x arguments) answer { return told(deed.Touched(x.l, x.known, x.owner, x.day)) },
		"Source":    func(x arguments) answer { return told(deed.Source(x.l, x.known, x.day, x.owner)) },
		"Write":     func(x arguments) answer { return answered(deed.Write(x.x)) },
		"Read":      func(x arguments) answer { return answered(deed.Read(x.line)) },
	}
}

// odd returns a number, often one that nothing is prepared for.
func odd(r *rand.Rand) int {
	return pick(r, 0, 1, 2, 3, r.IntN(8), -1, math.MinInt, math.MaxInt, math.MinInt+1, api.MaxOwner, api.MaxOwner+1, api.MaxDeeds, api.MaxDeeds+1, api.MaxDay, api.MaxDay+1, api.MaxParts, api.MaxParts+1, int(r.Uint64()))
}

// several returns up to n items.
func several[T any](r *rand.Rand, n int, item func(*rand.Rand) T) []T {
	var l []T
	for range r.IntN(n + 1) {
		l = append(l, item(r))
	}
	return l
}

func oddDeed(r *rand.Rand) api.Deed {
	return api.Deed{Id: odd(r), Day: odd(r), Known: odd(r), Kind: uint8(pick(r, r.IntN(10), r.IntN(256))), From: odd(r), To: odd(r), Parts: odd(r), End: odd(r), Of: odd(r), Heirs: several(r, 3, odd), Shares: several(r, 3, odd)}
}

func randomArguments(r *rand.Rand) arguments {
	x := arguments{
		l: several(r, 3, oddDeed), x: oddDeed(r), ids: several(r, 9, odd),
		known: pick(r, odd(r), r.IntN(20)), day: pick(r, odd(r), r.IntN(lastDay)), owner: pick(r, odd(r), 1+r.IntN(4)),
		line: pick(r, "", "1 0 0 enter 1 5", "2 0 void 1", "\xff \xff \xff \xff", "1 0 0 heirs 1 2", "1 0 0 heirs 1 2 1 3 1 4", "- - - - - - -", "- - - heirs - - -", "1 2 3 4 5 6 7 8"),
	}
	if r.IntN(4) > 0 {
		x.l = randomRegister(r, 1+r.IntN(12))
		x.x = pick(r, x.x, randomDeed(r, x.l))
	}
	if len(x.l) > 1 && r.IntN(4) == 0 { // a register but for one deed
		x.l[r.IntN(len(x.l))] = oddDeed(r)
	}
	return x
}

// R1: no call panics. R2: nothing is returned beside an error. R3: no argument is changed. R4: asked again, a function returns the same.
func TestRulesAtRandom(t *testing.T) {
	r := random(51)
	errors, fine := map[string]int{}, map[string]int{}
	all := calls()
	for range 2000 {
		x := randomArguments(r)
		before := fmt.Sprint(x)
		for name, call := range all {
			first := call(x)
			if first.e != api.OK && first.results != first.none {
				t.Errorf("%s(%+v): %s with error %d", name, x, first.results, first.e)
			}
			if again := call(x); again != first {
				t.Errorf("%s(%+v): %+v, then %+v", name, x, first, again)
			}
			if fmt.Sprint(x) != before {
				t.Fatalf("%s changed its arguments from %s to %+v", name, before, x)
			}
			if first.e == api.OK {
				fine[name]++
			} else {
				errors[name]++
			}
		}
	}
	for name := range all {
		if fine[name] < 20 {
			t.Errorf("%s succeeded only %d times", name, fine[name])
		}
	}
	for _, name := range []string{"Append", "Possible", "Write", "Read"} {
		if errors[name] < 20 {
			t.Errorf("%s failed only %d times", name, errors[name])
		}
	}
}

// B2 to B9: of a list that Check refuses nothing is told, whatever it has before the deed that is refused.
func TestNoRegister(t *testing.T) {
	l := sample(t)
	for name, bad := range map[string]api.Deed{
		"not well-formed": {}, "no kind": {Id: 9, Known: 50, Kind: 9}, "a far kind": {Id: 9, Known: 50, Kind: 255, To: 1, Parts: 1},
		"another Id": read(t, "10 50 0 enter 1 1")[0], "an earlier Known": read(t, "9 49 0 enter 1 1")[0],
		"no pledge": read(t, "9 50 30 redeem 1")[0], "withdrawn already": read(t, "9 50 void 3")[0], "too many parts": read(t, "9 50 0 enter 1 999999999")[0],
	} {
		refused := append(slices.Clone(l), bad)
		x := arguments{l: refused, known: 30, day: 8, owner: 1, ids: []int{1, 2}}
		for _, f := range []string{"Counting", "Idle", "Late", "Accounts", "Leases", "Pledges", "Lineage", "Only", "Moves"} {
			if got := calls()[f](x); got.results != "[]" {
				t.Errorf("%s with %s: %s", f, name, got.results)
			}
		}
		if enters, parts := deed.Source(refused, 30, 8, 1); len(enters) > 0 || len(parts) > 0 {
			t.Errorf("Source with %s: %v, %v", name, enters, parts)
		}
		if touched := deed.Touched(refused, 30, 40, 8); len(touched) > 0 {
			t.Errorf("Touched with %s: %v", name, touched)
		}
		if a := deed.AccountOf(refused, 30, 8, 1); a != (api.Account{}) {
			t.Errorf("AccountOf with %s: %v", name, a)
		}
		if uses, free, total := deed.Uses(refused, 30, 8, 1), deed.Free(refused, 30, 8, 1), deed.Total(refused, 30, 8); uses != 0 || free != 0 || total != 0 {
			t.Errorf("Uses, Free, Total with %s: %d, %d, %d", name, uses, free, total)
		}
		_, want := deed.Check(refused)
		if e := deed.Possible(refused, 30, l[0]); e != want || e == api.OK {
			t.Errorf("Possible with %s: error %d, want %d", name, e, want)
		}
	}
}

// R3: results are new memory, also where an argument has room behind its end.
func TestResultsAreNewMemory(t *testing.T) {
	lines := []string{"1 0 0 enter 1 9", "2 0 0 heirs 1 2 3 3 3"}
	l := append(make([]api.Deed, 0, 10), register(t, lines...)...)
	x, y := read(t, "3 0 0 heirs 2 4 1 5 1")[0], read(t, "3 0 0 enter 5 1")[0]
	first, e := deed.Append(l, x)
	mustOK(t, "Append", e)
	second, e := deed.Append(l, y)
	mustOK(t, "Append", e)
	if !sameDeed(first[2], x) || !sameDeed(second[2], y) || !sameDeed(l[:3][2], api.Deed{}) {
		t.Errorf("Append wrote behind the end of its argument: %v, %v, %v", first[2], second[2], l[:3][2])
	}
	mustOK(t, "Possible", deed.Possible(l, 0, y))
	if !sameDeed(l[:3][2], api.Deed{}) {
		t.Errorf("Possible wrote behind the end of its argument: %v", l[:3][2])
	}
	first[0].Parts, first[1].Heirs[0], first[1].Shares[0], first[2].Heirs[0], first[2].Shares[0] = 77, 77, 77, 77, 77
	if !sameDeeds(l, register(t, lines...)) || !sameDeeds(second[:2], l) || x.Heirs[0] != 4 || x.Shares[0] != 1 {
		t.Error("what Append returns shares memory with its arguments")
	}

	counting, again := deed.Counting(l, 0), deed.Counting(l, 0)
	counting[0].Parts, counting[1].Heirs[0], counting[1].Shares[0] = 77, 77, 77
	if !sameDeeds(l, register(t, lines...)) || !sameDeeds(again, l) {
		t.Error("what Counting returns shares memory with its argument")
	}
	read := func() api.Deed { x, _ := deed.Read("3 0 0 heirs 2 4 1 5 1"); return x }
	one := read()
	one.Heirs[0], one.Shares[0] = 77, 77
	if !sameDeed(read(), x) {
		t.Error("what Read returns is not new memory")
	}
	heirs, shares := append(x.Heirs, 7), append(x.Shares, 8)
	if heirs[2] != 7 || shares[2] != 8 {
		t.Error("the Heirs and Shares of a deed share memory")
	}
}

// R3: arguments are not sorted.
func TestArgumentsStay(t *testing.T) {
	l := register(t, "1 0 9 enter 1 9", "2 0 8 heirs 1 9 3 3 5", "3 0 7 enter 2 3")
	ids := []int{3, 1, 2}
	x := arguments{l: l, x: read(t, "4 0 0 heirs 1 9 3 3 5")[0], known: 9, day: 9, owner: 1, ids: ids}
	before := fmt.Sprint(x)
	for name, call := range calls() {
		call(x)
		if fmt.Sprint(x) != before {
			t.Fatalf("%s changed its arguments from %s to %+v", name, before, x)
		}
	}
}

// R3: nil and empty slices are equivalent.
func TestNilAndEmpty(t *testing.T) {
	none := arguments{x: read(t, "1 0 0 enter 1 5")[0], owner: 1, line: "1 0 0 enter 1 5"}
	empty := none
	empty.l, empty.ids, empty.x.Heirs, empty.x.Shares = []api.Deed{}, []int{}, []int{}, []int{}
	for name, call := range calls() {
		if x, y := call(none), call(empty); x != y {
			t.Errorf("%s: %+v for nil, %+v for empty slices", name, x, y)
		}
	}
}
