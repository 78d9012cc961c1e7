package rule_test

import (
	"fmt"
	"math"
	"slices"
	"testing"

	"couchant/api"
	"couchant/rule"
)

// fine returns one of a when and a pays.
func fine(name string, when, pays tree) api.Fine {
	return api.Fine{Name: name, When: when.expr(), Pays: pays.expr()}
}

// over is a fine with nothing wrong.
func over() api.Fine { return fine("over", less(stints, use), most(num(0), sub(use, stints))) }

// refused demands the error of Check, and that all functions of rules return it before all else.
func refused(t *testing.T, w api.Rules, want api.Errno) {
	t.Helper()
	if e := rule.Check(w); e != want {
		t.Errorf("Check of %v: error %d, want %d", w, e, want)
	}
	for name, call := range calls() {
		if x := (arguments{w: w, i: -1, most: -1}); takesRules(name) && name != "Print" {
			if got := call(x); got.e != want {
				t.Errorf("%s with %v: error %d, want %d", name, w, got.e, want)
			}
		}
	}
	if s := rule.Print(w); s != "" {
		t.Errorf("Print of %v: %q", w, s)
	}
}

// C3: rules that are right.
func TestRightRules(t *testing.T) {
	w := sample(t)
	mustOK(t, "Check of the sample", rule.Check(w))
	mustOK(t, "Check of no rules", rule.Check(api.Rules{}))
	mustOK(t, "Check of empty rules", rule.Check(api.Rules{Fines: []api.Fine{}, Seize: api.Expr{}}))
	mustOK(t, "Check of Seize alone", rule.Check(api.Rules{Seize: less(num(1), num(2)).expr()}))
	w = api.Rules{}
	for i := range 20 {
		w.Fines = append(w.Fines, fine(fmt.Sprintf("f%d", i), less(tick, cow), add(cow, num(i))))
	}
	mustOK(t, "Check of 20 fines", rule.Check(w))
	for _, name := range []string{"a", "abcdefghijklmnopqrstuvwx", "users", "fin", "no-t", "a-"} {
		mustOK(t, "Check of "+name, rule.Check(api.Rules{Fines: []api.Fine{fine(name, less(num(1), num(2)), num(0))}}))
	}
}

// C3: what may be wrong with rules.
func TestCheck(t *testing.T) {
	right := over()
	rises, falls, any := less(num(1), cow), less(cow, num(1)), same(cow, num(1))
	with := func(x api.Fine) api.Rules { return api.Rules{Fines: []api.Fine{right, x}} }
	for _, name := range []string{"", "Over", "1", "-", "a b", "abcdefghijklmnopqrstuvwxy", "fine", "seize", "when", "pays", "use", "stints", "tick", "min", "max", "and", "or", "not"} {
		refused(t, with(fine(name, rises, num(1))), api.ErrForm)
	}
	refused(t, with(fine("over", rises, num(1))), api.ErrTwice)
	for _, c := range []struct {
		when, pays api.Expr
		want       api.Errno
	}{
		{nil, num(1).expr(), api.ErrForm}, {rises.expr(), nil, api.ErrForm}, {slices.Repeat(num(1).expr(), 201), num(1).expr(), api.ErrLimit}, {rises.expr(), slices.Repeat(num(1).expr(), 201), api.ErrLimit},
		{rises.expr()[:2], num(1).expr(), api.ErrArg}, {rises.expr(), add(num(1), cow).expr()[:2], api.ErrArg}, {and(rises, cow).expr(), num(1).expr(), api.ErrType}, {rises.expr(), add(cow, rises).expr(), api.ErrType},
		{cow.expr(), num(1).expr(), api.ErrType}, {rises.expr(), rises.expr(), api.ErrType},
		{falls.expr(), num(1).expr(), api.ErrFalls}, {any.expr(), num(1).expr(), api.ErrFalls}, {rises.expr(), most(num(0), sub(stints, use)).expr(), api.ErrFalls}, {rises.expr(), most(num(0), sub(cow, sheep)).expr(), api.ErrFalls},
		// A low that is not known, of numbers that are still, and of rising ones.
		{rises.expr(), sub(num(2), num(1)).expr(), api.ErrFalls}, {rises.expr(), sub(use, stints).expr(), api.ErrFalls}, {rises.expr(), add(lit(1, 999983), lit(1, 999979)).expr(), api.ErrFalls},
		{rises.expr(), most(num(0), sub(num(2), num(3))).expr(), api.OK}, {rises.expr(), num(0).expr(), api.OK}, {rises.expr(), cow.expr(), api.OK}, {less(num(2), num(1)).expr(), num(1).expr(), api.OK},
	} {
		for _, w := range []api.Rules{with(api.Fine{Name: "x", When: c.when, Pays: c.pays}), {Fines: []api.Fine{{Name: "x", When: c.when, Pays: c.pays}, fine("over", rises, num(0))}}} {
			if c.want == api.OK {
				w.Fines[0].Pays = num(2).expr()
				w.Fines[1].Pays = num(2).expr()
				mustOK(t, "Check", rule.Check(w))
				continue
			}
			refused(t, w, c.want)
		}
	}
	for _, c := range []struct {
		seize api.Expr
		want  api.Errno
	}{
		{cow.expr(), api.ErrType}, {falls.expr(), api.ErrFalls}, {any.expr(), api.ErrFalls}, {not(rises).expr(), api.ErrFalls}, {slices.Repeat(num(1).expr(), 201), api.ErrLimit}, {rises.expr()[:2], api.ErrArg}, {and(rises, cow).expr(), api.ErrType},
	} {
		refused(t, api.Rules{Seize: c.seize}, c.want)
		refused(t, api.Rules{Fines: []api.Fine{right}, Seize: c.seize}, c.want)
	}
}

// C3: a Pays that is right need not be 0 or more by its looks, and one that is wrong may be so.
func TestPaysNothingLess(t *testing.T) {
	yes := less(num(1), num(2))
	for _, c := range []struct {
		pays tree
		want api.Errno
	}{
		{num(0), api.OK}, {use, api.OK}, {mul(use, cow), api.OK}, {most(num(0), sub(cow, num(3))), api.OK}, {most(sub(cow, num(3)), num(0)), api.OK}, {least(cow, num(3)), api.OK}, {stints, api.OK}, {tick, api.OK},
		{sub(cow, num(0)), api.ErrFalls}, {least(num(3), sub(cow, num(0))), api.ErrFalls}, {add(num(3), sub(cow, num(3))), api.ErrFalls}, {mul(num(3), sub(cow, num(3))), api.ErrFalls}, {mul(num(3), sub(num(3), num(3))), api.ErrFalls},
	} {
		if e := rule.Check(api.Rules{Fines: []api.Fine{fine("x", yes, c.pays)}}); e != c.want {
			t.Errorf("Check of a fine that pays %s: error %d, want %d", c.pays.source(false), e, c.want)
		}
	}
}

// C3: of several faults the first one.
func TestFirstFault(t *testing.T) {
	right := over()
	falls := less(cow, num(1))
	wrong := api.Fine{Name: "Wrong"}
	refused(t, api.Rules{Fines: append(slices.Repeat([]api.Fine{wrong}, 20), wrong), Seize: cow.expr()}, api.ErrLimit)
	refused(t, api.Rules{Fines: []api.Fine{right, wrong, right}, Seize: cow.expr()}, api.ErrForm)
	refused(t, api.Rules{Fines: []api.Fine{right, right, wrong}, Seize: cow.expr()}, api.ErrTwice)
	refused(t, api.Rules{Fines: []api.Fine{right, fine("over", cow, num(1))}}, api.ErrTwice)
	refused(t, api.Rules{Fines: []api.Fine{fine("use", cow, num(1)), right, right}}, api.ErrForm)
	refused(t, api.Rules{Fines: []api.Fine{right, fine("x", cow, falls), wrong}}, api.ErrType)
	refused(t, api.Rules{Fines: []api.Fine{right, fine("x", falls, falls), wrong}}, api.ErrFalls)
	refused(t, api.Rules{Fines: []api.Fine{right, fine("x", less(num(1), cow), falls), wrong}}, api.ErrType)
	refused(t, api.Rules{Fines: []api.Fine{right, {Name: "x", When: falls.expr()}, wrong}}, api.ErrFalls)
	refused(t, api.Rules{Fines: []api.Fine{right, {Name: "x", When: less(num(1), cow).expr()}, right}}, api.ErrForm)
	refused(t, api.Rules{Fines: []api.Fine{right, right}, Seize: falls.expr()}, api.ErrTwice)
}

// C4: the examples.
func TestFinesOfSample(t *testing.T) {
	w := sample(t)
	for _, c := range []struct {
		i, cows, sheep int
		want           api.Frac
	}{{0, 4, 6, whole(30)}, {0, 4, 4, whole(0)}, {0, 4, 5, whole(27)}, {1, 4, 6, whole(5)}, {1, 0, 100, whole(0)}} {
		if got, e := rule.Fine(w, c.i, plight(c.cows, c.sheep)); got != c.want || e != api.OK {
			t.Errorf("Fine(%d, %d, %d): %v, error %d, want %v", c.i, c.cows, c.sheep, got, e, c.want)
		}
	}
	for _, c := range []struct {
		cows, sheep int
		want        api.Frac
	}{{4, 6, whole(35)}, {4, 4, whole(5)}, {0, 0, whole(0)}, {4, 5, whole(32)}} {
		if got, e := rule.Total(w, plight(c.cows, c.sheep)); got != c.want || e != api.OK {
			t.Errorf("Total(%d, %d): %v, error %d, want %v", c.cows, c.sheep, got, e, c.want)
		}
	}
	for _, c := range []struct {
		cows, sheep int
		want        bool
	}{{4, 6, false}, {6, 1, true}, {6, 0, false}} {
		if got, e := rule.Seizes(w, plight(c.cows, c.sheep)); got != c.want || e != api.OK {
			t.Errorf("Seizes(%d, %d): %t, error %d, want %t", c.cows, c.sheep, got, e, c.want)
		}
	}
	w.Seize = nil
	if got, e := rule.Seizes(w, plight(100, 100)); got || e != api.OK {
		t.Errorf("Seizes without nodes: %t, error %d", got, e)
	}
	if got, e := rule.Total(api.Rules{}, plight(1, 1)); got != whole(0) || e != api.OK {
		t.Errorf("Total of nothing: %v, error %d", got, e)
	}
}

// C4: the index, the plight, and what is not in range.
func TestFineErrors(t *testing.T) {
	w := sample(t)
	bad := plight(4, 6)
	bad.Tick = 25
	for _, i := range []int{-1, 2, math.MinInt, math.MaxInt} {
		for _, p := range []api.Plight{plight(4, 6), bad} {
			if got, e := rule.Fine(w, i, p); got != (api.Frac{}) || e != api.ErrNone {
				t.Errorf("Fine(%d): %v, error %d", i, got, e)
			}
		}
	}
	for i := range 2 {
		if got, e := rule.Fine(w, i, bad); got != (api.Frac{}) || e != api.ErrArg {
			t.Errorf("Fine(%d) in no plight: %v, error %d", i, got, e)
		}
	}
	if got, e := rule.Total(w, bad); got != (api.Frac{}) || e != api.ErrArg {
		t.Errorf("Total in no plight: %v, error %d", got, e)
	}
	if got, e := rule.Total(api.Rules{}, bad); got != (api.Frac{}) || e != api.ErrArg {
		t.Errorf("Total of nothing in no plight: %v, error %d", got, e)
	}
	for _, w := range []api.Rules{w, {}} {
		if got, e := rule.Seizes(w, bad); got || e != api.ErrArg {
			t.Errorf("Seizes in no plight: %t, error %d", got, e)
		}
	}
	// Pays is not in range though When is false, and When though it does not matter.
	yes, no := less(num(1), num(2)), less(num(2), num(1))
	far := mul(mul(num(1000000), num(1000000)), cow)
	w = api.Rules{Fines: []api.Fine{fine("a", no, far), fine("b", or(yes, less(num(1), far)), num(1)), fine("c", no, num(1)), fine("d", yes, lit(1, 999983)), fine("e", yes, mul(cow, lit(1, 999979)))}, Seize: or(yes, less(num(1), far)).expr()}
	mustOK(t, "Check", rule.Check(w))
	for i, want := range []api.Frac{whole(0), whole(1), whole(0), f(1, 999983), f(1, 999979)} {
		if got, e := rule.Fine(w, i, plight(1, 0)); got != want || e != api.OK {
			t.Errorf("Fine(%d): %v, error %d, want %v", i, got, e, want)
		}
		wrong := api.OK
		if i < 2 {
			want, wrong = api.Frac{}, api.ErrLimit
		} else if i == 4 {
			want = f(2, 999979)
		}
		if got, e := rule.Fine(w, i, plight(2, 0)); got != want || e != wrong {
			t.Errorf("Fine(%d) with two cows: %v, error %d, want %v, %d", i, got, e, want, wrong)
		}
	}
	if got, e := rule.Seizes(w, plight(1, 0)); !got || e != api.OK {
		t.Errorf("Seizes: %t, error %d", got, e)
	}
	if got, e := rule.Seizes(w, plight(2, 0)); got || e != api.ErrLimit {
		t.Errorf("Seizes with two cows: %t, error %d", got, e)
	}
	// Each fine is in range, but a sum on the way is not.
	if got, e := rule.Total(w, plight(1, 0)); got != (api.Frac{}) || e != api.ErrLimit {
		t.Errorf("Total: %v, error %d", got, e)
	}
	w.Fines = w.Fines[:4]
	if got, e := rule.Total(w, plight(1, 0)); got != f(999984, 999983) || e != api.OK {
		t.Errorf("Total of four: %v, error %d", got, e)
	}
	if got, e := rule.Total(w, plight(2, 0)); got != (api.Frac{}) || e != api.ErrLimit {
		t.Errorf("Total with two cows: %v, error %d", got, e)
	}
	w = api.Rules{Fines: []api.Fine{fine("a", yes, lit(1, 999983)), fine("b", yes, lit(1, 3)), fine("c", yes, lit(999982, 999983))}}
	if got, e := rule.Total(w, plight(1, 0)); got != (api.Frac{}) || e != api.ErrLimit {
		t.Errorf("Total that comes into range in the end: %v, error %d", got, e)
	}
	w.Fines[1], w.Fines[2] = w.Fines[2], w.Fines[1]
	if got, e := rule.Total(w, plight(1, 0)); got != f(4, 3) || e != api.OK {
		t.Errorf("Total in another order: %v, error %d", got, e)
	}
}

// C7: the example, and what else constants show.
func TestIdle(t *testing.T) {
	idle := func(want []int, lines ...string) {
		t.Helper()
		if got, e := rule.Idle(parsed(t, lines...)); !slices.Equal(got, want) || e != api.OK {
			t.Errorf("Idle of %q: %v, error %d, want %v", lines, got, e, want)
		}
	}
	idle([]int{0, 1}, "fine a when 2 < 1 pays cow", "fine b when cow > 0 pays 3 * 0", "fine c when tick > 30 pays 1")
	idle(nil)
	idle(nil, "seize when 2 < 1")
	for _, never := range []string{"2 < 1", "not 1 < 2", "1 < 2 and 2 < 1", "1 = 2", "3 <= 5/2"} {
		idle([]int{1}, "fine a when 1 < 2 pays 1", "fine b when "+never+" pays 7", "fine c when 1 < 2 pays 1")
	}
	for _, perhaps := range []string{"1 < 2", "1 < 1 or 2 = 2", "1 < cow", "use > 0", "stints < 0", "tick > 24", "1 < 2 and tick < 0", "2 < 1 and cow > 0"} {
		idle(nil, "fine a when "+perhaps+" pays 7")
	}
	for _, nothing := range []string{"0", "0 + 0", "3 * 0", "min(0, 4)", "max(0, 2 - 3)"} {
		idle([]int{0}, "fine a when use > stints pays "+nothing)
	}
	for _, something := range []string{"1", "1/2", "cow", "0 * cow", "0 * stints", "0 * tick", "0 * use", "min(0, stints)", "max(0, 3 - 2)"} {
		idle(nil, "fine a when use > stints pays "+something)
	}
	// What is not in range is not shown to be anything.
	idle(nil, "fine a when 2 < 1 and 1/999983 + 1/999979 < 0 pays 7", "fine b when use > 0 pays min(0, max(0, 1/999983 - 1/999979))")
	idle([]int{0}, "fine a when 2 < 1 pays max(0, 1/999983 - 1/999979)")
}
