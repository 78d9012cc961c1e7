package rule_test

import (
	"math"
	"slices"
	"testing"

	"couchant/api"
	"couchant/rule"
)

// comesTo demands the value of a number.
func comesTo(t *testing.T, x tree, p api.Plight, want api.Frac) {
	t.Helper()
	if got, e := rule.Value(x.expr(), p); got != want || e != api.OK {
		t.Errorf("Value of %s in %v: %v, error %d, want %v", x.source(false), p, got, e, want)
	}
}

// isTrue demands the value of a truth.
func isTrue(t *testing.T, x tree, p api.Plight, want bool) {
	t.Helper()
	if got, e := rule.Holds(x.expr(), p); got != want || e != api.OK {
		t.Errorf("Holds of %s in %v: %t, error %d, want %t", x.source(false), p, got, e, want)
	}
}

// C2: what each operator makes of its operands.
func TestValue(t *testing.T) {
	p := plight(4, 6)
	p.Stints, p.Tick = f(7, 2), 5
	for _, c := range []struct {
		x    tree
		want api.Frac
	}{
		{num(7), whole(7)}, {lit(7, 2), f(7, 2)}, {num(0), whole(0)}, {cow, whole(4)}, {sheep, whole(6)}, {head("ewe"), whole(0)}, {use, f(11, 2)}, {stints, f(7, 2)}, {tick, whole(5)},
		{add(num(7), lit(1, 2)), f(15, 2)}, {sub(num(1), lit(7, 2)), f(-5, 2)}, {sub(cow, cow), whole(0)}, {mul(lit(2, 3), lit(3, 4)), f(1, 2)}, {mul(sub(num(1), num(3)), num(4)), whole(-8)},
		{least(num(1), num(2)), whole(1)}, {least(num(2), num(1)), whole(1)}, {least(lit(1, 3), lit(1, 2)), f(1, 3)}, {most(num(1), num(2)), whole(2)}, {most(num(2), num(1)), whole(2)}, {most(lit(1, 2), lit(1, 3)), f(1, 2)},
		{sub(sub(num(9), num(3)), num(2)), whole(4)}, {sub(num(9), sub(num(3), num(2))), whole(8)},
	} {
		comesTo(t, c.x, p, c.want)
	}
	bare := api.Plight{Stints: whole(0)}
	for _, x := range []tree{cow, use, stints, tick} {
		comesTo(t, x, bare, whole(0))
	}
}

// C2: what is true of numbers and of truths.
func TestHolds(t *testing.T) {
	p := plight(4, 6)
	yes, no := less(num(1), num(2)), less(num(2), num(1))
	for _, c := range []struct {
		x    tree
		want bool
	}{
		{yes, true}, {no, false}, {less(num(2), num(2)), false}, {less(lit(1, 3), lit(1, 2)), true}, {more(num(2), num(1)), true}, {more(num(1), num(2)), false}, {more(num(2), num(2)), false},
		{atMost(num(1), num(2)), true}, {atMost(num(2), num(2)), true}, {atMost(num(3), num(2)), false}, {atLeast(num(2), num(1)), true}, {atLeast(num(2), num(2)), true}, {atLeast(num(1), num(2)), false},
		{same(num(2), num(2)), true}, {same(num(2), num(1)), false}, {same(add(lit(1, 2), lit(1, 2)), num(1)), true}, {same(cow, num(4)), true}, {less(sub(num(0), num(1)), num(0)), true},
		{and(yes, yes), true}, {and(yes, no), false}, {and(no, yes), false}, {and(no, no), false}, {or(yes, yes), true}, {or(yes, no), true}, {or(no, yes), true}, {or(no, no), false}, {not(yes), false}, {not(no), true}, {not(not(yes)), true},
		{and(less(cow, sheep), not(same(tick, num(3)))), true},
	} {
		isTrue(t, c.x, p, c.want)
	}
}

// C2: the wrong type, also before what is wrong with a plight.
func TestTypesAsked(t *testing.T) {
	for _, p := range []api.Plight{plight(1, 1), {}} {
		if got, e := rule.Value(less(num(1), num(2)).expr(), p); got != (api.Frac{}) || e != api.ErrType {
			t.Errorf("Value of a truth: %v, error %d", got, e)
		}
		if got, e := rule.Holds(num(1).expr(), p); got || e != api.ErrType {
			t.Errorf("Holds of a number: %t, error %d", got, e)
		}
	}
}

// C2: plights that are valid, and ones that are not.
func TestPlights(t *testing.T) {
	valid := func(change func(p *api.Plight), want bool) {
		t.Helper()
		p := plight(4, 6)
		change(&p)
		if got, e := rule.Value(num(7).expr(), p); want && (got != whole(7) || e != api.OK) || !want && (got != (api.Frac{}) || e != api.ErrArg) {
			t.Errorf("Value in %v: %v, error %d, want %t", p, got, e, want)
		}
		if got, e := rule.Holds(less(num(1), num(2)).expr(), p); got != want || want != (e == api.OK) || !want && e != api.ErrArg {
			t.Errorf("Holds in %v: %t, error %d, want %t", p, got, e, want)
		}
	}
	for tick, want := range map[int]bool{0: true, 24: true, 25: false, -1: false, math.MinInt: false, math.MaxInt: false} {
		valid(func(p *api.Plight) { p.Tick = tick }, want)
	}
	for stints, want := range map[api.Frac]bool{whole(0): true, f(1, 1000000): true, whole(1000000000000): true, whole(1000000000001): false, whole(-1): false, f(-1, 2): false, f(2, 4): false, {}: false, f(0, 2): false, f(1, -1): false, f(1, 1000001): false, f(math.MinInt, -1): false} {
		valid(func(p *api.Plight) { p.Stints = stints }, want)
	}
	for each, want := range map[api.Frac]bool{f(1, 1000000): true, whole(1000): true, f(999999999, 1000000): true, whole(1001): false, f(2001, 2): false, whole(0): false, f(-1, 4): false, f(2, 4): false, {}: false, f(1, 1000001): false, f(1, -4): false} {
		valid(func(p *api.Plight) { p.Herds[1].Each = each }, want)
	}
	for number, want := range map[int]bool{0: true, 100000: true, 100001: false, -1: false, math.MinInt: false, math.MaxInt: false} {
		valid(func(p *api.Plight) { p.Herds[0].Number = number }, want)
	}
	// The names of sorts may be words of the language here.
	for sort, want := range map[string]bool{"use": true, "fine": true, "a": true, "abcdefghijklmnopqrstuvwx": true, "abcdefghijklmnopqrstuvwxy": false, "": false, "Cow": false, "1": false, "-": false, "a b": false, "sheep": false} {
		valid(func(p *api.Plight) { p.Herds[0].Sort = sort }, want)
	}
	for size, want := range map[int]bool{0: true, 12: true, 13: false} {
		valid(func(p *api.Plight) {
			p.Herds = nil
			for i := range size {
				p.Herds = append(p.Herds, api.Herd{Sort: "s" + string(rune('a'+i)), Each: whole(1)})
			}
		}, want)
	}
	comesTo(t, use, api.Plight{Stints: whole(0), Herds: []api.Herd{{Sort: "use", Number: 3, Each: whole(2)}}}, whole(6))
}

// C2: a sum, difference or product that is not in range, also of a node that does not matter in the end.
func TestNotInRange(t *testing.T) {
	p := plight(4, 6)
	fine, small := lit(1, 999983), lit(1, 999979)
	million := num(1000000)
	most12 := mul(million, million)
	comesTo(t, most12, p, whole(1000000000000))
	comesTo(t, sub(num(0), most12), p, whole(-1000000000000))
	comesTo(t, add(sub(most12, num(1)), num(1)), p, whole(1000000000000))
	comesTo(t, sub(fine, fine), p, whole(0))
	for _, x := range []tree{
		add(most12, num(1)), sub(sub(num(0), most12), num(1)), mul(most12, num(2)), mul(sub(num(0), num(999999999)), num(1001)), add(fine, small), sub(fine, small), mul(fine, small), sub(add(most12, num(1)), num(1)),
		least(num(1), add(most12, num(1))), most(sub(sub(num(0), most12), num(1)), num(1)), mul(num(0), add(fine, small)), add(mul(most12, most12), num(1)),
	} {
		if got, e := rule.Value(x.expr(), p); got != (api.Frac{}) || e != api.ErrLimit {
			t.Errorf("Value of %s: %v, error %d", x.source(false), got, e)
		}
		truth := or(less(num(1), num(2)), less(x, num(1)))
		for _, y := range []tree{truth, and(not(truth), truth), same(x, x)} {
			if got, e := rule.Holds(y.expr(), p); got || e != api.ErrLimit {
				t.Errorf("Holds of %s: %t, error %d", y.source(false), got, e)
			}
		}
	}
	// A product with Each, and a sum of them on the way, of which only the first one is asked for in the end.
	for _, herds := range [][]api.Herd{
		{{Sort: "a", Number: 99999, Each: f(999999999, 1000000)}},
		{{Sort: "a", Number: 1, Each: f(1, 999983)}, {Sort: "b", Number: 1, Each: f(1, 999979)}},
		{{Sort: "a", Number: 1, Each: f(1, 999983)}, {Sort: "b", Number: 1, Each: f(1, 3)}, {Sort: "c", Number: 1, Each: f(999982, 999983)}},
	} {
		for _, x := range []tree{use, add(use, num(1)), least(num(0), use)} {
			if got, e := rule.Value(x.expr(), api.Plight{Stints: whole(0), Herds: herds}); got != (api.Frac{}) || e != api.ErrLimit {
				t.Errorf("Value of %s with %v: %v, error %d", x.source(false), herds, got, e)
			}
		}
		comesTo(t, head("a"), api.Plight{Stints: whole(0), Herds: herds}, whole(herds[0].Number))
	}
	// It is added up from the first herd on: in another order this is in range.
	comesTo(t, use, api.Plight{Stints: whole(0), Herds: []api.Herd{{Sort: "a", Number: 1, Each: f(1, 999983)}, {Sort: "c", Number: 1, Each: f(999982, 999983)}, {Sort: "b", Number: 1, Each: f(1, 3)}}}, f(4, 3))
	comesTo(t, use, api.Plight{Stints: whole(0), Herds: []api.Herd{{Sort: "a", Number: 0, Each: f(1, 999983)}, {Sort: "b", Number: 1, Each: f(1, 999979)}}}, f(1, 999979))
}

// C2: values as the chapter says them.
func TestValuesAtRandom(t *testing.T) {
	r := random(3)
	limits, numbers, truths := 0, 0, map[bool]int{}
	for range 30000 {
		x, p := randomTree(r, 1+r.IntN(4)), randomPlight(r, pick(r, 3, 100000))
		want := x.in(p)
		e := x.expr()
		var number api.Frac
		var truth bool
		var err, other api.Errno
		if x.isTruth() {
			truth, err = rule.Holds(e, p)
			_, other = rule.Value(e, p)
		} else {
			number, err = rule.Value(e, p)
			_, other = rule.Holds(e, p)
		}
		if other != api.ErrType {
			t.Errorf("%s as the other type: error %d", x.source(false), other)
		}
		switch {
		case !want.ok:
			limits++
			if err != api.ErrLimit || number != (api.Frac{}) || truth {
				t.Errorf("%s in %v: %v, %t, error %d, want ErrLimit", x.source(false), p, number, truth, err)
			}
		case x.isTruth():
			truths[want.truth]++
			if err != api.OK || truth != want.truth {
				t.Errorf("%s in %v: %t, error %d, want %t", x.source(false), p, truth, err, want.truth)
			}
		default:
			numbers++
			if err != api.OK || number != frac(want.number) {
				t.Errorf("%s in %v: %v, error %d, want %v", x.source(false), p, number, err, want.number)
			}
		}
	}
	if limits < 1000 || numbers < 5000 || truths[true] < 2000 || truths[false] < 2000 {
		t.Errorf("not enough of each: %d, %d, %v", limits, numbers, truths)
	}
}

// C2: of the longest expression each node is found.
func TestLongExpression(t *testing.T) {
	x := cow
	for range 99 {
		x = add(x, num(1))
	}
	e := x.expr()
	if len(e) != 199 {
		t.Fatalf("%d nodes", len(e))
	}
	comesTo(t, x, plight(4, 6), whole(103))
	if sorts, err := rule.Sorts(e); !slices.Equal(sorts, []string{"cow"}) || err != api.OK {
		t.Errorf("Sorts: %v, error %d", sorts, err)
	}
}
