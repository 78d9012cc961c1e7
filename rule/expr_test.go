package rule_test

import (
	"math"
	"math/rand/v2"
	"slices"
	"testing"

	"couchant/api"
	"couchant/rule"
)

// isRight demands that an expression has a type.
func isRight(t *testing.T, e api.Expr, kind uint8) {
	t.Helper()
	if got, err := rule.CheckExpr(e); got != kind || err != api.OK {
		t.Errorf("CheckExpr(%v): type %d, error %d, want type %d", e, got, err, kind)
	}
}

// isWrong demands that an expression has an error, for all functions of expressions.
func isWrong(t *testing.T, e api.Expr, want api.Errno) {
	t.Helper()
	if got, err := rule.CheckExpr(e); got != 0 || err != want {
		t.Errorf("CheckExpr(%v): type %d, error %d, want error %d", e, got, err, want)
	}
	if got, err := rule.Trend(e); got != 0 || err != want {
		t.Errorf("Trend(%v): %d, error %d, want error %d", e, got, err, want)
	}
	if got, is, err := rule.Low(e); got != (api.Frac{}) || is || err != want {
		t.Errorf("Low(%v): %v, %t, error %d, want error %d", e, got, is, err, want)
	}
	if got, err := rule.Sorts(e); len(got) > 0 || err != want {
		t.Errorf("Sorts(%v): %v, error %d, want error %d", e, got, err, want)
	}
}

// C1: each operator takes what the table says, and gives what it says.
func TestTypesOfOperators(t *testing.T) {
	for _, x := range []tree{num(0), cow, use, stints, tick} {
		isRight(t, x.expr(), api.TypeNumber)
	}
	is := less(cow, num(2))
	for op := api.OpAdd; op <= api.OpOr; op++ {
		kind, takes := api.TypeNumber, cow
		if op >= api.OpLess {
			kind = api.TypeTruth
		}
		other := is
		if op >= api.OpAnd {
			takes, other = is, cow
		}
		isRight(t, part(op, takes, takes).expr(), kind)
		isWrong(t, part(op, takes, other).expr(), api.ErrType)
		isWrong(t, part(op, other, takes).expr(), api.ErrType)
		isWrong(t, part(op, other, other).expr(), api.ErrType)
	}
	isRight(t, not(is).expr(), api.TypeTruth)
	isWrong(t, not(cow).expr(), api.ErrType)
	isRight(t, more(cow, num(2)).expr(), api.TypeTruth)
	isRight(t, atLeast(cow, num(2)).expr(), api.TypeTruth)
}

// C1: leaves of which a field is not as said, alone and behind one that is right.
func TestLeaves(t *testing.T) {
	number := func(a api.Frac) api.Node { return api.Node{Op: api.OpNumber, Num: a} }
	named := func(s string) api.Node { return api.Node{Op: api.OpHead, Name: s} }
	for _, n := range []api.Node{
		number(whole(0)), number(whole(1)), number(whole(999999999)), number(f(999999999, 1000000)), number(f(1, 1000000)), number(f(7, 2)),
		named("a"), named("a-1"), named("abcdefghijklmnopqrstuvwx"), named("users"), named("fin"), named("fines"), named("no-t"), named("tick-"), named("z9-"),
	} {
		isRight(t, api.Expr{n}, api.TypeNumber)
	}
	wrong := []api.Node{
		{}, {Op: 17}, {Op: 255}, number(api.Frac{}), number(f(0, 2)), number(f(2, 4)), number(f(1, 1000001)), number(whole(1000000000)), number(whole(-1)), number(f(-1, 2)), number(f(1, -1)), number(f(1, 0)), number(f(math.MinInt, math.MinInt)), number(f(math.MaxInt, 1)), number(f(0, -1)),
		named(""), named("A"), named("1"), named("-a"), named("a b"), named("abcdefghijklmnopqrstuvwxy"), named("ä"), named("a_"), named("a\n"), named("a/"),
	}
	for _, s := range []string{"fine", "seize", "when", "pays", "use", "stints", "tick", "min", "max", "and", "or", "not"} {
		wrong = append(wrong, named(s))
	}
	for op := api.OpNumber; op <= api.OpTick; op++ {
		n := api.Node{Op: op}
		if op == api.OpNumber {
			n.Num = whole(3)
		}
		if op == api.OpHead {
			n.Name = "cow"
		}
		for _, set := range []func(n *api.Node){func(n *api.Node) { n.A = 1 }, func(n *api.Node) { n.B = 1 }, func(n *api.Node) { n.A = -1 }, func(n *api.Node) { n.B = math.MinInt }} {
			other := n
			set(&other)
			wrong = append(wrong, other)
		}
		if op != api.OpNumber {
			other := n
			other.Num = f(0, 1)
			wrong = append(wrong, other)
			other.Num = f(1, 0)
			wrong = append(wrong, other)
		}
		if op != api.OpHead {
			n.Name = "cow"
			wrong = append(wrong, n)
		}
	}
	for _, n := range wrong {
		isWrong(t, api.Expr{n}, api.ErrArg)
		isWrong(t, api.Expr{number(whole(1)), n, {Op: api.OpAdd, A: 0, B: 1}}, api.ErrArg)
	}
}

// C1: nodes with operands of which a field is not as said.
func TestOperands(t *testing.T) {
	one, two := num(1).expr()[0], less(num(1), num(2)).expr()
	three := func(n api.Node) api.Expr { return api.Expr{one, one, one, n} }
	for op := api.OpAdd; op <= api.OpSame; op++ {
		// The row has 0, 1 and 2: behind this, 0 and 3.
		isWrong(t, three(api.Node{Op: op, A: 1, B: 2}), api.ErrArg)
		for _, ab := range [][2]int{{0, 1}, {0, 2}, {1, 1}, {2, 2}, {0, 0}, {1, 3}, {3, 2}, {-1, 2}, {1, -1}, {2, 0}, {math.MaxInt, 2}, {1, math.MinInt}} {
			isWrong(t, append(three(api.Node{Op: op, A: ab[0], B: ab[1]}), api.Node{Op: op, A: 0, B: 3}), api.ErrArg)
		}
		other := api.Expr{one, one, {Op: op, A: 1, B: 0}}
		if op == api.OpLess || op == api.OpAtMost {
			isRight(t, other, api.TypeTruth)
		} else {
			isWrong(t, other, api.ErrArg)
		}
		isWrong(t, api.Expr{one, one, {Op: op, A: 0, B: 1, Num: whole(0)}}, api.ErrArg)
		isWrong(t, api.Expr{one, one, {Op: op, A: 0, B: 1, Name: "cow"}}, api.ErrArg)
		isWrong(t, api.Expr{one, {Op: op}}, api.ErrArg)
		isWrong(t, api.Expr{{Op: op}}, api.ErrArg)
	}
	isRight(t, append(two, api.Node{Op: api.OpNot, A: 2}), api.TypeTruth)
	for _, n := range []api.Node{{A: 0}, {A: 1}, {A: 3}, {A: -1}, {A: 2, B: 1}, {A: 2, B: 2}, {A: 2, B: -1}, {A: 2, Num: whole(0)}, {A: 2, Name: "a"}} {
		n.Op = api.OpNot
		isWrong(t, append(slices.Clone(two), n), api.ErrArg)
	}
	isWrong(t, api.Expr{{Op: api.OpNot}}, api.ErrArg)
	for _, op := range []uint8{api.OpAnd, api.OpOr} {
		four := append(slices.Clone(two), api.Node{Op: api.OpHead, Name: "a"}, api.Node{Op: api.OpHead, Name: "b"}, api.Node{Op: api.OpLess, A: 3, B: 4})
		isRight(t, append(slices.Clone(four), api.Node{Op: op, A: 2, B: 5}), api.TypeTruth)
		isWrong(t, append(slices.Clone(four), api.Node{Op: op, A: 5, B: 2}), api.ErrArg)
	}
}

// C1: which error is the first one.
func TestFirstError(t *testing.T) {
	one := num(1).expr()[0]
	bad := api.Node{Op: 17}
	long := slices.Repeat(api.Expr{one}, 201)
	isWrong(t, nil, api.ErrForm)
	isWrong(t, api.Expr{}, api.ErrForm)
	isWrong(t, long, api.ErrLimit)
	long[0] = bad
	isWrong(t, long, api.ErrLimit)
	// Nodes that are left over are found behind the last one.
	isWrong(t, long[1:], api.ErrArg)
	isWrong(t, api.Expr{one, one}, api.ErrArg)
	isWrong(t, append(api.Expr{one}, not(cow).expr()...), api.ErrArg)
	isWrong(t, api.Expr{one, one, {Op: api.OpNot, A: 1}}, api.ErrType)
	isWrong(t, api.Expr{one, one, {Op: api.OpNot, A: 1}, bad}, api.ErrType)
	isWrong(t, api.Expr{one, bad, {Op: api.OpNot, A: 0}}, api.ErrArg)
	isWrong(t, api.Expr{one, {Op: api.OpNot, A: 0, B: 1}}, api.ErrArg)
	isWrong(t, api.Expr{one, one, {Op: api.OpAnd, A: 1, B: 0}}, api.ErrArg)
	// 199 and 200 nodes are not too many.
	sum := num(1)
	for range 99 {
		sum = add(sum, cow)
	}
	isRight(t, sum.expr(), api.TypeNumber)
	if e := not(less(sum, sum)).expr(); len(e) != 400 {
		t.Fatalf("%d nodes", len(e))
	}
	flag := less(num(1), cow)
	for range 197 {
		flag = not(flag)
	}
	isRight(t, flag.expr(), api.TypeTruth)
	isWrong(t, not(flag).expr(), api.ErrLimit)
}

// spoilt changes something of an expression, most often so that it is not right any more.
func spoilt(r *rand.Rand, e api.Expr) api.Expr {
	if len(e) == 0 {
		return e
	}
	e = slices.Clone(e)
	n := &e[r.IntN(len(e))]
	switch r.IntN(9) {
	case 0:
		n.Op = uint8(r.IntN(18))
	case 1:
		n.A = r.IntN(len(e)+2) - 1
	case 2:
		n.B = r.IntN(len(e)+2) - 1
	case 3:
		n.A, n.B = n.B, n.A
	case 4:
		n.Num = pick(r, whole(0), f(1, 2), f(2, 2), api.Frac{}, whole(1000000000))
	case 5:
		n.Name = pick(r, "", "cow", "use", "Cow")
	case 6:
		return append(e, api.Node{Op: pick(r, api.OpUse, api.OpNot), A: r.IntN(2) * (len(e) - 1)})
	case 7:
		return e[:len(e)-1]
	case 8:
		at := r.IntN(len(e))
		return slices.Insert(e, at, e[r.IntN(len(e))])
	}
	return e
}

// C1: expressions that are right, and ones of which something was changed, as the chapter says it.
func TestCheckExprAtRandom(t *testing.T) {
	r := random(1)
	seen := map[api.Errno]int{}
	for range 40000 {
		x := randomTree(r, 1+r.IntN(4))
		e := x.expr()
		if kind, err := checked(e); len(e) <= 200 && (err != api.OK || kind == api.TypeTruth != x.isTruth()) {
			t.Fatalf("the model's type of %v: %d, error %d", e, kind, err)
		}
		for range r.IntN(3) {
			e = spoilt(r, e)
		}
		kind, err := checked(e)
		seen[err]++
		if err == api.OK {
			isRight(t, e, kind)
		} else {
			isWrong(t, e, err)
		}
	}
	if seen[api.OK] < 5000 || seen[api.ErrArg] < 5000 || seen[api.ErrType] < 100 || seen[api.ErrForm] < 10 {
		t.Errorf("not enough of each: %v", seen)
	}
}

// C1: the examples, and what each rule says of trends.
func TestTrend(t *testing.T) {
	still, up, down, any := add(tick, stints), sub(cow, num(1)), sub(stints, use), same(cow, num(2))
	odd := sub(cow, sheep)
	for _, c := range []struct {
		x    tree
		want uint8
	}{
		{sub(use, stints), api.TrendUp}, {down, api.TrendDown}, {any, api.TrendAny},
		{num(3), api.TrendStill}, {stints, api.TrendStill}, {tick, api.TrendStill}, {cow, api.TrendUp}, {use, api.TrendUp},
		{still, api.TrendStill}, {up, api.TrendUp}, {odd, api.TrendAny},
		{add(up, still), api.TrendUp}, {add(still, down), api.TrendDown}, {add(up, down), api.TrendAny}, {add(odd, still), api.TrendAny}, {add(down, odd), api.TrendAny},
		{least(up, up), api.TrendUp}, {most(down, down), api.TrendDown}, {least(down, up), api.TrendAny}, {most(still, up), api.TrendUp},
		{sub(still, still), api.TrendStill}, {sub(down, up), api.TrendDown}, {sub(up, down), api.TrendUp}, {sub(down, still), api.TrendDown}, {sub(up, up), api.TrendAny}, {sub(still, odd), api.TrendAny},
		{less(num(1), cow), api.TrendUp}, {less(cow, num(1)), api.TrendDown}, {more(cow, num(1)), api.TrendUp}, {atLeast(num(1), cow), api.TrendDown}, {atMost(still, still), api.TrendStill}, {less(cow, sheep), api.TrendAny}, {atMost(down, up), api.TrendUp}, {atMost(odd, still), api.TrendAny},
		{same(still, tick), api.TrendStill}, {same(still, up), api.TrendAny}, {same(down, still), api.TrendAny},
		{not(less(num(1), cow)), api.TrendDown}, {not(less(cow, num(1))), api.TrendUp}, {not(any), api.TrendAny}, {not(same(tick, num(1))), api.TrendStill},
		{and(less(num(1), cow), less(tick, num(1))), api.TrendUp}, {or(less(cow, num(1)), less(sheep, num(1))), api.TrendDown}, {and(any, less(num(1), cow)), api.TrendAny}, {or(less(num(1), cow), less(cow, num(1))), api.TrendAny},
		{mul(cow, num(3)), api.TrendUp}, {mul(cow, sheep), api.TrendUp}, {mul(still, tick), api.TrendStill},
		// A product of numbers that may be below 0 is not known to rise, but stays if both do.
		{mul(up, num(3)), api.TrendAny}, {mul(num(3), down), api.TrendAny}, {mul(most(up, num(0)), num(3)), api.TrendUp}, {mul(num(3), most(num(0), down)), api.TrendDown}, {mul(most(num(0), up), most(num(0), down)), api.TrendAny},
		{mul(sub(tick, stints), sub(stints, tick)), api.TrendStill}, {mul(sub(tick, stints), cow), api.TrendAny}, {mul(cow, sub(num(2), num(1))), api.TrendAny},
	} {
		if got, e := rule.Trend(c.x.expr()); got != c.want || e != api.OK {
			t.Errorf("Trend of %s: %d, error %d, want %d", c.x.source(false), got, e, c.want)
		}
	}
}

// C1: the example, and what each operator says of lows.
func TestLow(t *testing.T) {
	unknown := sub(cow, num(1))
	for _, c := range []struct {
		x    tree
		want api.Frac
		is   bool
	}{
		{most(num(0), sub(use, stints)), whole(0), true},
		{num(7), whole(7), true}, {lit(7, 2), f(7, 2), true}, {cow, whole(0), true}, {use, whole(0), true}, {stints, whole(0), true}, {tick, whole(0), true},
		{add(num(2), lit(1, 2)), f(5, 2), true}, {add(num(2), cow), whole(2), true}, {add(num(2), unknown), api.Frac{}, false}, {add(unknown, num(2)), api.Frac{}, false},
		{sub(num(3), num(1)), api.Frac{}, false}, {sub(cow, num(0)), api.Frac{}, false},
		{mul(num(3), num(4)), whole(0), true}, {mul(num(3), unknown), api.Frac{}, false}, {mul(unknown, num(3)), api.Frac{}, false},
		{least(num(3), num(4)), whole(3), true}, {least(num(4), lit(7, 2)), f(7, 2), true}, {least(num(3), unknown), api.Frac{}, false}, {least(unknown, num(3)), api.Frac{}, false},
		{most(num(3), num(4)), whole(4), true}, {most(num(4), num(3)), whole(4), true}, {most(unknown, num(3)), whole(3), true}, {most(num(3), unknown), whole(3), true}, {most(unknown, unknown), api.Frac{}, false},
		// Where a sum is not in range, nothing is known.
		{add(lit(1, 999983), lit(1, 999979)), api.Frac{}, false}, {add(lit(1, 999983), lit(1, 999983)), f(2, 999983), true}, {most(num(3), add(lit(1, 999983), lit(1, 999979))), whole(3), true}, {mul(lit(1, 999983), lit(1, 999979)), whole(0), true},
		// Truths have none.
		{less(num(1), num(2)), api.Frac{}, false}, {same(num(1), num(1)), api.Frac{}, false}, {not(less(num(1), num(2))), api.Frac{}, false}, {and(less(num(1), num(2)), atMost(num(1), num(2))), api.Frac{}, false}, {or(less(num(1), num(2)), atMost(num(1), num(2))), api.Frac{}, false}, {more(num(2), num(1)), api.Frac{}, false},
	} {
		if got, is, e := rule.Low(c.x.expr()); got != c.want || is != c.is || e != api.OK {
			t.Errorf("Low of %s: %v, %t, error %d, want %v, %t", c.x.source(false), got, is, e, c.want, c.is)
		}
	}
}

// C1: trends and lows as the chapter says them.
func TestTrendAndLowAtRandom(t *testing.T) {
	r := random(2)
	trends, lows := map[uint8]int{}, map[bool]int{}
	for range 30000 {
		x := pick(r, randomTree(r, 1+r.IntN(4)), rising(r, r.IntN(4), r.IntN(2) == 0), growing(r, 1+r.IntN(3), r.IntN(2) == 0))
		if x.size() > 200 {
			continue
		}
		want := x.trend().code()
		if got, e := rule.Trend(x.expr()); got != want || e != api.OK {
			t.Errorf("Trend of %s: %d, error %d, want %d", x.source(false), got, e, want)
		}
		trends[want]++
		low, is, e := rule.Low(x.expr())
		known := x.low()
		if e != api.OK || is != (known != nil) || is && low != frac(known) || !is && low != (api.Frac{}) {
			t.Errorf("Low of %s: %v, %t, error %d, want %v", x.source(false), low, is, e, known)
		}
		lows[is]++
	}
	if trends[api.TrendStill] < 1000 || trends[api.TrendUp] < 1000 || trends[api.TrendDown] < 1000 || trends[api.TrendAny] < 1000 || lows[true] < 1000 || lows[false] < 1000 {
		t.Errorf("not enough of each: %v, %v", trends, lows)
	}
}

// C2: the sorts that an expression names.
func TestSorts(t *testing.T) {
	for _, c := range []struct {
		x    tree
		want []string
	}{
		{num(3), nil}, {add(use, stints), nil}, {cow, []string{"cow"}}, {add(sheep, cow), []string{"cow", "sheep"}}, {add(add(sheep, cow), sub(sheep, cow)), []string{"cow", "sheep"}},
		{less(head("b"), least(head("a-"), head("a"))), []string{"a", "a-", "b"}}, {same(head("a1"), add(head("aa"), head("a-"))), []string{"a-", "a1", "aa"}},
	} {
		if got, e := rule.Sorts(c.x.expr()); !slices.Equal(got, c.want) || e != api.OK {
			t.Errorf("Sorts of %s: %v, error %d, want %v", c.x.source(false), got, e, c.want)
		}
	}
}
