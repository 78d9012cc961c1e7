package mark_test

import (
	"fmt"
	"math"
	"math/rand/v2"
	"slices"
	"testing"

	"couchant/api"
	"couchant/mark"
)

// arguments are all that the functions of the package can be asked with.
type arguments struct {
	b                 api.Smits
	day, owner, other int
	s, c              api.Sight
	found             []api.Sight
	claims            []api.Claim
	owners            []int
	m                 api.Mark
	line              string
}

// answer is what a function returns: its results without the error, what these are with an error, and the error.
type answer struct {
	results, none string
	e             api.Errno
}

func answered[T any](x T, e api.Errno) answer {
	var zero T
	return answer{fmt.Sprint(x), fmt.Sprint(zero), e}
}

func answeredTwo[T, U any](x T, y U, e api.Errno) answer {
	var zero T
	var none U
	return answer{fmt.Sprint(x, y), fmt.Sprint(zero, none), e}
}

// calls asks every function of the package.
func calls() map[string]func(arguments) answer {
	return map[string]func(arguments) answer{
		"CheckSmits":    func(x arguments) answer { return answered(0, mark.CheckSmits(x.b)) },
		"InForce":       func(x arguments) answer { return answered(mark.InForce(x.b, x.day)) },
		"MarkOf":        func(x arguments) answer { return answered(mark.MarkOf(x.b, x.day, x.owner)) },
		"Fits":          func(x arguments) answer { return answered(mark.Fits(x.b, x.day, x.s, x.owner)) },
		"Owners":        func(x arguments) answer { return answered(mark.Owners(x.b, x.day, x.s)) },
		"Sure":          func(x arguments) answer { return answeredTwo(mark.Sure(x.b, x.day, x.s)) },
		"Alike":         func(x arguments) answer { return answeredTwo(mark.Alike(x.b, x.day, x.owner, x.other)) },
		"Mistaken":      func(x arguments) answer { return answered(mark.Mistaken(x.b, x.day)) },
		"Apart":         func(x arguments) answer { return answered(mark.Apart(x.b, x.s, x.c)) },
		"Free":          func(x arguments) answer { return answered(mark.Free(x.b, x.day)) },
		"Range":         func(x arguments) answer { return answeredTwo(mark.Range(x.b, x.day, x.found, x.owner)) },
		"Groups":        func(x arguments) answer { return answered(mark.Groups(x.b, x.day, x.found)) },
		"Assign":        func(x arguments) answer { return answeredTwo(mark.Assign(x.b, x.day, x.found, x.claims)) },
		"Shortage":      func(x arguments) answer { return answeredTwo(mark.Shortage(x.b, x.day, x.found, x.claims)) },
		"CheckShortage": func(x arguments) answer { return answered(mark.CheckShortage(x.b, x.day, x.found, x.claims, x.owners)) },
		"Certain":       func(x arguments) answer { return answered(mark.Certain(x.b, x.day, x.found, x.claims)) },
		"Most":          func(x arguments) answer { return answered(mark.Most(x.b, x.day, x.found, x.claims, x.owner)) },
		"Meets":         func(x arguments) answer { return answered(mark.Meets(x.b, x.day, x.found, x.claims, x.owners)) },
		"Write":         func(x arguments) answer { return answered(mark.Write(x.m)) },
		"Read":          func(x arguments) answer { return answered(mark.Read(x.line)) },
		"WriteSight":    func(x arguments) answer { return answered(mark.WriteSight(x.s)) },
		"ReadSight":     func(x arguments) answer { return answered(mark.ReadSight(x.line)) },
	}
}

// fault makes something of the arguments invalid.
type fault struct {
	do func(x *arguments)
	e  api.Errno
}

// faults returns what can be wrong with arguments, in the order in which that is said.
func faults() ([]string, map[string]fault) {
	bad := api.Sight{Signs: [6]uint8{0, 0, 0, 0, 0, 5}}
	order := []string{"marks", "fades", "mark", "fade", "mark twice", "fade twice", "day below", "day above", "owner below", "owner above", "other", "sight", "second sight",
		"beasts", "beast", "claims", "claim of nobody", "claim of too many", "claim twice", "no room", "none", "no second", "contested"}
	return order, map[string]fault{
		"marks":             {func(x *arguments) { x.b.Marks = append(x.b.Marks, many(101)...) }, api.ErrLimit},
		"fades":             {func(x *arguments) { x.b.Fades = append(x.b.Fades, make([]api.Fade, 21)...) }, api.ErrLimit},
		"mark":              {func(x *arguments) { x.b.Marks = append(x.b.Marks, api.Mark{Owner: 41}) }, api.ErrArg},
		"fade":              {func(x *arguments) { x.b.Fades = append(x.b.Fades, api.Fade{Sign: 1, Seen: 1}) }, api.ErrArg},
		"mark twice":        {func(x *arguments) { x.b.Marks = append(x.b.Marks, x.b.Marks[0]) }, api.ErrTwice},
		"fade twice":        {func(x *arguments) { x.b.Fades = append(x.b.Fades, x.b.Fades[0]) }, api.ErrTwice},
		"day below":         {func(x *arguments) { x.day = -1 }, api.ErrArg},
		"day above":         {func(x *arguments) { x.day = 100001 }, api.ErrArg},
		"owner below":       {func(x *arguments) { x.owner = 0 }, api.ErrArg},
		"owner above":       {func(x *arguments) { x.owner = 41 }, api.ErrArg},
		"other":             {func(x *arguments) { x.other = 41 }, api.ErrArg},
		"sight":             {func(x *arguments) { x.s = bad }, api.ErrArg},
		"second sight":      {func(x *arguments) { x.c = bad }, api.ErrArg},
		"beasts":            {func(x *arguments) { x.found = append(x.found, make([]api.Sight, 61)...) }, api.ErrLimit},
		"beast":             {func(x *arguments) { x.found = append(x.found, bad) }, api.ErrArg},
		"claims":            {func(x *arguments) { x.claims = append(x.claims, tenClaims(0)...) }, api.ErrLimit},
		"claim of nobody":   {func(x *arguments) { x.claims = append(x.claims, api.Claim{Owner: 41}) }, api.ErrArg},
		"claim of too many": {func(x *arguments) { x.claims = append(x.claims, api.Claim{Owner: 20, Number: 61}) }, api.ErrArg},
		"claim twice":       {func(x *arguments) { x.claims = append(x.claims, x.claims[0]) }, api.ErrTwice},
		"no room":           {func(x *arguments) { x.claims = append(x.claims, tenClaims(0)[2:]...) }, api.ErrLimit},
		"none":              {func(x *arguments) { x.owner = 30 }, api.ErrNone},
		"no second":         {func(x *arguments) { x.other = 30 }, api.ErrNone},
		"contested":         {func(x *arguments) { x.claims[0].Number = 60 }, api.ErrClaim},
	}
}

// faultsOf returns what can be wrong for each function.
func faultsOf() map[string][]string {
	b := []string{"marks", "fades", "mark", "fade", "mark twice", "fade twice"}
	day := append(slices.Clone(b), "day below", "day above")
	owner := append(slices.Clone(day), "owner below", "owner above")
	found := append(slices.Clone(day), "beasts", "beast")
	claims := append(slices.Clone(found), "claims", "claim of nobody", "claim of too many", "claim twice")
	with := func(l []string, more ...string) []string { return append(slices.Clone(l), more...) }
	return map[string][]string{
		"CheckSmits": b, "InForce": day, "MarkOf": with(owner, "none"), "Fits": with(owner, "sight"), "Owners": with(day, "sight"), "Sure": with(day, "sight"),
		"Alike": with(owner, "other", "none", "no second"), "Mistaken": day, "Apart": with(b, "sight", "second sight"), "Free": day,
		"Range": with(owner, "beasts", "beast"), "Groups": found, "Assign": claims, "Shortage": claims, "CheckShortage": claims, "Certain": with(claims, "contested"),
		"Most": with(claims, "owner below", "owner above", "no room", "contested"), "Meets": claims,
	}
}

// validArguments are arguments with which no function returns an error; the owner 2 claims two of three beasts, and 1 may claim the third one.
func validArguments(t testing.TB) arguments {
	clear := sight(t, "plain plain bare bare bare bare")
	return arguments{b: sample(t), day: 9, owner: 1, other: 2, s: clear, c: clear, found: sampleFound(t), claims: claims(2, 2, 40, 0), owners: []int{2, 2, 0},
		m: api.Mark{Owner: 1}, line: "1 0 0 plain plain bare bare bare bare"}
}

// What is not said to be wrong for a function is nothing to it; of two faults the first one decides.
func TestErrors(t *testing.T) {
	order, all := faults()
	for name, its := range faultsOf() {
		if got := calls()[name](validArguments(t)); got.e != api.OK {
			t.Errorf("%s: error %d", name, got.e)
		}
		for i, first := range order {
			for _, second := range order[i:] {
				x := validArguments(t)
				all[first].do(&x)
				if second != first {
					all[second].do(&x)
				}
				want := api.OK
				if slices.Contains(its, first) {
					want = all[first].e
				} else if slices.Contains(its, second) {
					want = all[second].e
				}
				if canceled(first, second) {
					continue
				}
				if got := calls()[name](x); got.e != want || want != api.OK && got.results != got.none {
					t.Errorf("%s with the faults %q and %q: %s, error %d, want error %d", name, first, second, got.results, got.e, want)
				}
			}
		}
	}
}

// canceled tells whether a fault undoes one before it, or makes another one of it.
func canceled(first, second string) bool {
	switch second {
	case "none":
		return first == "owner below" || first == "owner above"
	case "no second":
		return first == "other"
	case "day above":
		return first == "day below"
	case "no room": // together with another claim these are more than ten
		return slices.Contains([]string{"claim of nobody", "claim of too many", "claim twice"}, first)
	}
	return false
}

// odd returns a number, often one that nothing is prepared for.
func odd(r *rand.Rand) int {
	return pick(r, 0, 1, 2, 3, r.IntN(8), -1, math.MinInt, math.MaxInt, math.MinInt+1, 40, 41, 60, 61, 63, 64, 65, 128, api.MaxDay, api.MaxDay+1, int(r.Uint64()))
}

// several returns up to n items.
func several[T any](r *rand.Rand, n int, item func(*rand.Rand) T) []T {
	var l []T
	for range r.IntN(n + 1) {
		l = append(l, item(r))
	}
	return l
}

func oddSigns(r *rand.Rand) [api.MarkPlaces]uint8 {
	s := randomSigns(r)
	s[r.IntN(6)] = pick(r, 0, 4, 5, 8, 9, 10, 255, uint8(r.IntN(256)))
	return s
}

func oddMark(r *rand.Rand) api.Mark {
	return api.Mark{Owner: odd(r), From: odd(r), Until: odd(r), Signs: oddSigns(r)}
}

func oddFade(r *rand.Rand) api.Fade {
	return api.Fade{Sign: uint8(r.IntN(256)), Seen: uint8(r.IntN(256))}
}

func oddSight(r *rand.Rand) api.Sight { return api.Sight{Signs: oddSigns(r)} }

func oddClaim(r *rand.Rand) api.Claim { return api.Claim{Owner: odd(r), Number: odd(r)} }

// randomArguments returns arguments of which some are often odd.
func randomArguments(r *rand.Rand) arguments {
	b, day := randomSmits(r), r.IntN(lastDay)
	found := randomFound(r, b, day, 12)
	x := arguments{
		b: b, day: day, owner: pick(r, owners()...), other: pick(r, owners()...), s: randomSight(r, b, day), c: api.Sight{Signs: randomSigns(r)},
		found: found, claims: randomClaims(r, b, day, found, 5), owners: several(r, 4, odd), m: randomMark(r), line: pick(r, "1 0 0 plain plain bare bare bare bare", "plain worn bare bare bare bare"),
	}
	if r.IntN(2) == 0 {
		x.owners, _, _ = mark.Assign(b, day, found, x.claims)
	}
	if r.IntN(3) > 0 {
		return x
	}
	oddities := []func(){
		func() { x.b.Marks = append(slices.Clone(b.Marks), oddMark(r)) }, func() { x.b.Fades = append(slices.Clone(b.Fades), oddFade(r)) },
		func() { x.day = odd(r) }, func() { x.owner = odd(r) }, func() { x.other = odd(r) }, func() { x.s = oddSight(r) }, func() { x.c = oddSight(r) },
		func() { x.found = append(several(r, 60, oddSight), found...) }, func() { x.claims = append(x.claims, oddClaim(r)) }, func() { x.m = oddMark(r) },
		func() {
			x.line = pick(r, "", "1 0 0", "\xff \xff", "- - - - - - - - -", "         ", "1 0 0 worn worn worn worn worn worn")
		},
	}
	for range 1 + r.IntN(4) {
		pick(r, oddities...)()
	}
	return x
}

// R1: no call panics. R2: nothing is returned beside an error. R3: no argument is changed. R4: asked again, a function returns the same.
func TestRulesAtRandom(t *testing.T) {
	r := random(51)
	failed, fine := map[string]int{}, map[string]int{}
	all := calls()
	for range 1500 {
		x := randomArguments(r)
		before := fmt.Sprint(x)
		for name, call := range all {
			first := call(x)
			if first.e != api.OK && first.results != first.none {
				t.Errorf("%s(%+v): %s with error %d", name, x, first.results, first.e)
			}
			if again := call(x); again != first {
				t.Errorf("%s(%+v): %+v, then %+v", name, x, first, again)
			}
			if fmt.Sprint(x) != before {
				t.Fatalf("%s changed its arguments from %s to %+v", name, before, x)
			}
			if first.e == api.OK {
				fine[name]++
			} else {
				failed[name]++
			}
		}
	}
	for name := range all {
		if fine[name] < 50 || failed[name] < 50 {
			t.Errorf("%s succeeded %d times, and failed %d times", name, fine[name], failed[name])
		}
	}
}

// R3: results are new memory, also where an argument has room behind its end.
func TestResultsAreNewMemory(t *testing.T) {
	b, found := sample(t), sampleFound(t)
	cl := append(make([]api.Claim, 0, 9), claims(1, 1, 2, 2)...)
	marks, e := mark.InForce(b, 10)
	mustOK(t, "InForce", e)
	marks[0].Owner, marks[1].Signs[0] = 77, 77
	if fmt.Sprint(b) != fmt.Sprint(sample(t)) {
		t.Error("what InForce returns shares memory with its argument")
	}
	for _, owner := range []int{1, 3} {
		_, e = mark.Most(b, 10, found, cl, owner)
		mustOK(t, "Most", e)
	}
	if !slices.Equal(cl, claims(1, 1, 2, 2)) || cl[:3][2] != (api.Claim{}) {
		t.Errorf("Most changed its argument to %v", cl[:3])
	}
	groups, e := mark.Groups(b, 10, append(found, sights(t, "worn worn worn worn worn worn")...))
	mustOK(t, "Groups", e)
	before := fmt.Sprint(groups[1:])
	for i := range groups[0].Owners {
		groups[0].Owners[i] = 77
	}
	if longer := append(groups[0].Owners, 7, 7, 7, 7); fmt.Sprint(groups[1:]) != before || len(longer) == 0 {
		t.Error("the lists that Groups returns share memory")
	}
	again, e := mark.Groups(b, 10, found)
	mustOK(t, "Groups", e)
	if fmt.Sprint(again) != "[{[1] 1} {[1 2] 2}]" {
		t.Errorf("Groups, after a result was changed: %v", again)
	}
	owners, ok, e := mark.Assign(b, 10, found, cl)
	if !ok || e != api.OK || !slices.Equal(owners, []int{2, 2, 1}) {
		t.Fatalf("Assign: %v, %v, error %d", owners, ok, e)
	}
	owners[0] = 77
	if owners, _, _ := mark.Assign(b, 10, found, cl); !slices.Equal(owners, []int{2, 2, 1}) {
		t.Errorf("Assign, after a result was changed: %v", owners)
	}
}

// R3: nil and empty slices are equivalent.
func TestNilAndEmpty(t *testing.T) {
	none := arguments{owner: 1, other: 1, m: api.Mark{Owner: 1}, line: "1 0 0 plain plain bare bare bare bare"}
	empty := none
	empty.b = api.Smits{Marks: []api.Mark{}, Fades: []api.Fade{}}
	empty.found, empty.claims, empty.owners = []api.Sight{}, []api.Claim{}, []int{}
	for name, call := range calls() {
		if x, y := call(none), call(empty); x != y {
			t.Errorf("%s: %+v for nil, %+v for empty slices", name, x, y)
		}
	}
}
