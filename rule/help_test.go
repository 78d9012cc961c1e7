package rule_test

import (
	"math/rand/v2"
	"slices"
	"strings"
	"testing"

	"couchant/api"
	"couchant/rule"
)

func mustOK(t testing.TB, what string, e api.Errno) {
	t.Helper()
	if e != api.OK {
		t.Fatalf("%s: error %d", what, e)
	}
}

func f(num, den int) api.Frac { return api.Frac{Num: num, Den: den} }

func whole(n int) api.Frac { return f(n, 1) }

// parsed returns the rules of some lines.
func parsed(t testing.TB, lines ...string) api.Rules {
	t.Helper()
	w, fault := rule.Parse(strings.Join(lines, "\n"))
	if fault != (api.Fault{}) {
		t.Fatalf("Parse of %q: fault %v", lines, fault)
	}
	return w
}

// sample is W of the chapter's examples.
func sample(t testing.TB) api.Rules {
	t.Helper()
	return parsed(t, "fine over when use > stints + 2 pays 12 * max(0, use - stints)", "fine late when tick >= 3 and cow > 0 pays 5", "seize when use > 2 * stints")
}

// plight is P(c, s) of the chapter's examples.
func plight(cows, sheep int) api.Plight {
	return api.Plight{Tick: 4, Stints: whole(3), Herds: []api.Herd{{Sort: "cow", Number: cows, Each: whole(1)}, {Sort: "sheep", Number: sheep, Each: f(1, 4)}}}
}

// tree is an expression with its parts, in the order in which they are written; turned if it is written with > or >=.
type tree struct {
	op     uint8
	num    api.Frac
	name   string
	turned bool
	parts  []tree
}

func part(op uint8, parts ...tree) tree { return tree{op: op, parts: parts} }

func lit(num, den int) tree { return tree{op: api.OpNumber, num: f(num, den)} }

func num(n int) tree { return lit(n, 1) }

func head(sort string) tree { return tree{op: api.OpHead, name: sort} }

var cow, sheep, use, stints, tick = head("cow"), head("sheep"), part(api.OpUse), part(api.OpStints), part(api.OpTick)

func add(a, b tree) tree { return part(api.OpAdd, a, b) }

func sub(a, b tree) tree { return part(api.OpSub, a, b) }

func mul(a, b tree) tree { return part(api.OpMul, a, b) }

func least(a, b tree) tree { return part(api.OpMin, a, b) }

func most(a, b tree) tree { return part(api.OpMax, a, b) }

func less(a, b tree) tree { return part(api.OpLess, a, b) }

func atMost(a, b tree) tree { return part(api.OpAtMost, a, b) }

func same(a, b tree) tree { return part(api.OpSame, a, b) }

func and(a, b tree) tree { return part(api.OpAnd, a, b) }

func or(a, b tree) tree { return part(api.OpOr, a, b) }

func not(a tree) tree { return part(api.OpNot, a) }

// more and atLeast are written with > and >=.
func more(a, b tree) tree { return tree{op: api.OpLess, turned: true, parts: []tree{a, b}} }

func atLeast(a, b tree) tree { return tree{op: api.OpAtMost, turned: true, parts: []tree{a, b}} }

// expr returns the nodes of a tree.
func (x tree) expr() api.Expr {
	var e api.Expr
	x.put(&e)
	return e
}

// put adds the nodes of a tree and returns the index of the last one.
func (x tree) put(e *api.Expr) int {
	n := api.Node{Op: x.op, Num: x.num, Name: x.name}
	var at []int
	for _, y := range x.parts {
		at = append(at, y.put(e))
	}
	if x.turned {
		slices.Reverse(at)
	}
	if len(at) > 0 {
		n.A = at[0]
	}
	if len(at) > 1 {
		n.B = at[1]
	}
	*e = append(*e, n)
	return len(*e) - 1
}

// size returns how many nodes a tree has.
func (x tree) size() int {
	size := 1
	for _, y := range x.parts {
		size += y.size()
	}
	return size
}

// isTruth tells whether a tree is one.
func (x tree) isTruth() bool { return x.op >= api.OpLess }

func random(seed uint64) *rand.Rand { return rand.New(rand.NewPCG(seed, 21)) }

// pick returns one of the items.
func pick[T any](r *rand.Rand, items ...T) T { return items[r.IntN(len(items))] }

// names are those of sorts and fines, some of which begin like words of the language.
func names() []string {
	return []string{"cow", "sheep", "ewe-1", "user", "min-", "not1", "a", "abcdefghijklmnopqrstuvwx"}
}

// divisor returns the greatest number that divides both.
func divisor(a, b int) int {
	for b != 0 {
		a, b = b, a%b
	}
	return max(a, -a)
}

// lowest returns num / den in lowest terms.
func lowest(num, den int) api.Frac {
	by := divisor(num, den)
	return f(num/by, den/by)
}

// randomLiteral returns a number as it can stand in a source, most often a small one.
func randomLiteral(r *rand.Rand) api.Frac {
	switch r.IntN(12) {
	case 0:
		return lowest(r.IntN(api.MaxLiteral+1), 1+r.IntN(api.MaxDen))
	case 1:
		return whole(api.MaxLiteral - r.IntN(3))
	case 2:
		return lowest(1+r.IntN(50), api.MaxDen-r.IntN(20))
	case 3, 4:
		return lowest(r.IntN(30), 1+r.IntN(8))
	}
	return whole(r.IntN(7))
}

// randomLeaf returns a number without operands.
func randomLeaf(r *rand.Rand) tree {
	switch r.IntN(8) {
	case 0, 1, 2:
		return tree{op: api.OpNumber, num: randomLiteral(r)}
	case 3:
		return use
	case 4:
		return stints
	case 5:
		return tick
	}
	return head(pick(r, names()...))
}

// randomNumber returns a number of some depth at most.
func randomNumber(r *rand.Rand, depth int) tree {
	if depth == 0 || r.IntN(5) == 0 {
		return randomLeaf(r)
	}
	op := pick(r, api.OpAdd, api.OpSub, api.OpMul, api.OpMin, api.OpMax)
	return part(op, randomNumber(r, depth-1), randomNumber(r, depth-1))
}

// randomTruth returns a truth of some depth at most, which is at least 1.
func randomTruth(r *rand.Rand, depth int) tree {
	if depth > 1 && r.IntN(2) == 0 {
		switch r.IntN(3) {
		case 0:
			return not(randomTruth(r, depth-1))
		case 1:
			return and(randomTruth(r, depth-1), randomTruth(r, depth-1))
		}
		return or(randomTruth(r, depth-1), randomTruth(r, depth-1))
	}
	a, b := randomNumber(r, depth-1), randomNumber(r, depth-1)
	return pick(r, less, more, atMost, atLeast, same)(a, b)
}

// randomTree returns a number or a truth.
func randomTree(r *rand.Rand, depth int) tree {
	if r.IntN(2) == 0 {
		return randomNumber(r, depth)
	}
	return randomTruth(r, depth)
}

// rising returns a number that rises with the beasts, or a falling one, and that is often not still; of a rising one the low is often known.
func rising(r *rand.Rand, depth int, up bool) tree {
	if depth == 0 || r.IntN(6) == 0 {
		if up && r.IntN(4) > 0 {
			return pick(r, cow, sheep, head("ewe-1"), use)
		}
		return pick(r, stints, tick, tree{op: api.OpNumber, num: randomLiteral(r)}, num(r.IntN(5)))
	}
	a, b := rising(r, depth-1, up), rising(r, depth-1, up)
	switch r.IntN(6) {
	case 0, 1:
		return add(a, b)
	case 2:
		return sub(a, rising(r, depth-1, !up))
	case 3:
		if up {
			return mul(a, b)
		}
		return sub(num(r.IntN(9)), rising(r, depth-1, !up))
	case 4:
		return least(a, b)
	}
	return most(a, b)
}

// growing returns a truth that comes true with more beasts, or one that ends with them.
func growing(r *rand.Rand, depth int, up bool) tree {
	if depth > 1 && r.IntN(2) == 0 {
		switch r.IntN(3) {
		case 0:
			return not(growing(r, depth-1, !up))
		case 1:
			return and(growing(r, depth-1, up), growing(r, depth-1, up))
		}
		return or(growing(r, depth-1, up), growing(r, depth-1, up))
	}
	greater, lesser := rising(r, depth-1, up), rising(r, depth-1, !up)
	if r.IntN(2) == 0 {
		return pick(r, more, atLeast)(greater, lesser)
	}
	return pick(r, less, atMost)(lesser, greater)
}

// randomFine returns one that is right, behind others.
func randomFine(r *rand.Rand, before []api.Fine, depth int) api.Fine {
	for {
		x := api.Fine{Name: pick(r, names()...) + pick(r, "", "-", "7"), When: growing(r, 1+r.IntN(depth), true).expr(), Pays: rising(r, r.IntN(depth+1), true).expr()}
		if r.IntN(2) == 0 {
			x.Pays = most(num(r.IntN(3)), rising(r, depth-1, true)).expr()
		}
		if rule.Check(api.Rules{Fines: append(slices.Clone(before), x)}) == api.OK {
			return x
		}
	}
}

// randomRules returns right rules with at most so many fines.
func randomRules(r *rand.Rand, fines, depth int) api.Rules {
	var w api.Rules
	for range r.IntN(fines + 1) {
		w.Fines = append(w.Fines, randomFine(r, w.Fines, depth))
	}
	for r.IntN(3) > 0 {
		if e := growing(r, depth, true).expr(); rule.Check(api.Rules{Seize: e}) == api.OK {
			w.Seize = e
			break
		}
	}
	return w
}

// randomEach returns what a beast takes up, often so little that all sums of it are in range.
func randomEach(r *rand.Rand) api.Frac {
	if r.IntN(6) == 0 {
		return lowest(1+r.IntN(1000), 1+r.IntN(api.MaxDen))
	}
	return pick(r, whole(1), whole(1), f(1, 4), f(3, 8), whole(4), whole(1000), f(1, 2))
}

// randomPlight returns a valid plight with at most so many beasts of a sort.
func randomPlight(r *rand.Rand, beasts int) api.Plight {
	p := api.Plight{Tick: r.IntN(25), Stints: pick(r, whole(0), whole(r.IntN(12)), lowest(r.IntN(50), 1+r.IntN(9)))}
	sorts := append(names(), "use", "min")
	r.Shuffle(len(sorts), func(i, j int) { sorts[i], sorts[j] = sorts[j], sorts[i] })
	for _, sort := range sorts[:r.IntN(5)] {
		p.Herds = append(p.Herds, api.Herd{Sort: sort, Number: pick(r, 0, r.IntN(beasts+1), r.IntN(beasts+1)), Each: randomEach(r)})
	}
	return p
}

// withMore returns a plight with some more beasts of some sorts.
func withMore(r *rand.Rand, p api.Plight, beasts int) api.Plight {
	p.Herds = slices.Clone(p.Herds)
	for i := range p.Herds {
		p.Herds[i].Number += r.IntN(beasts + 1)
	}
	return p
}

// copyOf returns rules that share no memory with others.
func copyOf(w api.Rules) api.Rules {
	w.Fines = slices.Clone(w.Fines)
	for i, x := range w.Fines {
		w.Fines[i].When, w.Fines[i].Pays = slices.Clone(x.When), slices.Clone(x.Pays)
	}
	w.Seize = slices.Clone(w.Seize)
	return w
}

// areSame tells whether rules have the same content.
func areSame(a, b api.Rules) bool {
	return slices.Equal(a.Seize, b.Seize) && slices.EqualFunc(a.Fines, b.Fines, func(x, y api.Fine) bool {
		return x.Name == y.Name && slices.Equal(x.When, y.When) && slices.Equal(x.Pays, y.Pays)
	})
}
