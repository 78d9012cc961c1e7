package rule_test

import (
	"slices"
	"testing"

	"couchant/api"
	"couchant/rule"
	"couchant/share"
)

// P8.1: the chapter's examples that no other test has.
func TestExamples(t *testing.T) {
	w := sample(t)
	if got, e := rule.Fine(w, 0, plight(4, 6)); got != whole(30) || e != api.OK {
		t.Errorf("Fine: %v, error %d", got, e)
	}
	if got, e := rule.Judge(w, 0, plight(4, 4), plight(4, 8)); got != verdict(api.VerdictOpen, 0, 36) || e != api.OK {
		t.Errorf("Judge: %v, error %d", got, e)
	}
	// DOC.md, example 8.
	w = parsed(t, "fine over when use > stints + 2 pays 1")
	for _, c := range []struct {
		low, high int
		want      uint8
	}{{6, 9, api.VerdictSure}, {5, 9, api.VerdictOpen}, {4, 5, api.VerdictNone}} {
		if got, e := rule.Judge(w, 0, plight(c.low, 0), plight(c.high, 0)); got.Kind != c.want || e != api.OK {
			t.Errorf("Judge from %d to %d: %v, error %d, want %d", c.low, c.high, got, e, c.want)
		}
	}
}

// P8.2: values follow the trend, and are at least the low.
func TestValuesFollowTrends(t *testing.T) {
	r := random(11)
	moved, lows := map[uint8]int{}, 0
	for range 60000 {
		x := pick(r, randomTree(r, 1+r.IntN(3)), rising(r, 1+r.IntN(3), r.IntN(2) == 0), growing(r, 1+r.IntN(3), r.IntN(2) == 0))
		p := randomPlight(r, 6)
		q := withMore(r, p, 4)
		e := x.expr()
		trend, err := rule.Trend(e)
		mustOK(t, "Trend", err)
		var sign int
		if x.isTruth() {
			a, err := rule.Holds(e, p)
			b, other := rule.Holds(e, q)
			if err != api.OK || other != api.OK {
				continue
			}
			if a != b {
				sign = map[bool]int{true: 1, false: -1}[b]
			}
		} else {
			a, err := rule.Value(e, p)
			b, other := rule.Value(e, q)
			if err != api.OK || other != api.OK {
				continue
			}
			sign = share.Compare(b, a)
			low, is, _ := rule.Low(e)
			if is {
				lows++
			}
			if is && (share.Compare(a, low) < 0 || share.Compare(b, low) < 0) {
				t.Errorf("%s: %v in %v, %v in %v, low %v", x.source(false), a, p, b, q, low)
			}
		}
		if sign != 0 {
			moved[trend]++
		}
		if trend == api.TrendStill && sign != 0 || trend == api.TrendUp && sign < 0 || trend == api.TrendDown && sign > 0 {
			t.Errorf("%s has the trend %d, but goes %d from %v to %v", x.source(false), trend, sign, p, q)
		}
	}
	if moved[api.TrendUp] < 2000 || moved[api.TrendDown] < 1000 || moved[api.TrendAny] < 500 || lows < 5000 {
		t.Errorf("not enough of each: %v, %d", moved, lows)
	}
}

// between calls a function for all plights that lie between two ends.
func between(low, high api.Plight, do func(api.Plight)) {
	p := low
	p.Herds = slices.Clone(low.Herds)
	var from func(at int)
	from = func(at int) {
		if at == len(p.Herds) {
			do(p)
			return
		}
		for n := low.Herds[at].Number; n <= high.Herds[at].Number; n++ {
			p.Herds[at].Number = n
			from(at + 1)
		}
	}
	from(0)
}

// randomEnds returns two plights with few between them, about where the fines of rules begin to be due.
func randomEnds(t *testing.T, w api.Rules, seed uint64) (api.Plight, api.Plight) {
	t.Helper()
	r := random(seed)
	low := randomPlight(r, 6)
	for range 3 {
		if len(low.Herds) == 0 {
			low = randomPlight(r, 6)
		}
	}
	high := withMore(r, low, 2)
	return low, high
}

// P8.3, T8: what is judged between two ends holds in all plights that lie between them, and no more would.
func TestJudgeOfAllThatMayBeTrue(t *testing.T) {
	r := random(12)
	kinds, seizures, checked, between2 := map[uint8]int{}, map[uint8]int{}, 0, 0
	for range 4000 {
		w := randomRules(r, 3, 2)
		low, high := randomEnds(t, w, r.Uint64())
		verdicts, e := rule.JudgeAll(w, low, high)
		if e != api.OK {
			continue
		}
		seize, e := rule.MaySeize(w, low, high)
		for i, v := range verdicts {
			if alone, e := rule.Judge(w, i, low, high); alone != v || e != api.OK {
				t.Errorf("Judge(%d): %v, error %d, of all %v", i, alone, e, v)
			}
			kinds[v.Kind]++
			all, none, least, greatest, skipped := true, true, api.Frac{}, api.Frac{}, false
			between(low, high, func(p api.Plight) {
				value, e := rule.Fine(w, i, p)
				due, other := rule.Holds(w.Fines[i].When, p)
				if e != api.OK || other != api.OK {
					skipped = true
					return
				}
				all, none = all && due, none && !due
				if least == (api.Frac{}) || share.Compare(value, least) < 0 {
					least = value
				}
				if greatest == (api.Frac{}) || share.Compare(value, greatest) > 0 {
					greatest = value
				}
				checked++
			})
			want := api.VerdictOpen
			if all {
				want = api.VerdictSure
			} else if none {
				want = api.VerdictNone
			}
			if v != (api.Verdict{Kind: want, Least: least, Greatest: greatest}) {
				t.Errorf("Judge of %s between %v and %v: %v, but of all plights %d, %v to %v (%t)", rule.Print(w), low, high, v, want, least, greatest, skipped)
			}
			if least != greatest {
				between2++
			}
		}
		if e != api.OK {
			continue
		}
		all, none := true, true
		between(low, high, func(p api.Plight) {
			if is, e := rule.Seizes(w, p); e == api.OK {
				all, none = all && is, none && !is
			}
		})
		seizures[seize]++
		if all != (seize == api.VerdictSure) || none != (seize == api.VerdictNone) {
			t.Errorf("MaySeize of %s between %v and %v: %d, but of all plights %t, %t", rule.Print(w), low, high, seize, all, none)
		}
	}
	for kind := api.VerdictSure; kind <= api.VerdictOpen; kind++ {
		if kinds[kind] < 100 || seizures[kind] < 100 {
			t.Errorf("not enough of each: %v, %v", kinds, seizures)
		}
	}
	if checked < 10000 || between2 < 300 {
		t.Errorf("not enough: %d, %d", checked, between2)
	}
}

// P8.4: between narrower ends the least is not less, the greatest not greater, and what is sure or none stays so.
func TestNarrowerEnds(t *testing.T) {
	r := random(13)
	narrowed, opened := 0, 0
	for range 6000 {
		w := randomRules(r, 2, 2)
		low := randomPlight(r, 6)
		in := withMore(r, low, 3)
		out := withMore(r, in, 3)
		high := withMore(r, out, 3)
		for i := range w.Fines {
			wide, e := rule.Judge(w, i, low, high)
			narrow, other := rule.Judge(w, i, in, out)
			if e != api.OK || other != api.OK {
				continue
			}
			if share.Compare(narrow.Least, wide.Least) < 0 || share.Compare(narrow.Greatest, wide.Greatest) > 0 || wide.Kind != api.VerdictOpen && narrow.Kind != wide.Kind {
				t.Errorf("Judge of %s: %v between %v and %v, %v between %v and %v", rule.Print(w), wide, low, high, narrow, in, out)
			}
			if narrow != wide {
				narrowed++
			}
			if narrow.Kind != wide.Kind {
				opened++
			}
		}
		wide, e := rule.MaySeize(w, low, high)
		narrow, other := rule.MaySeize(w, in, out)
		if e == api.OK && other == api.OK && wide != api.VerdictOpen && narrow != wide {
			t.Errorf("MaySeize of %s: %d, narrower %d", rule.Print(w), wide, narrow)
		}
	}
	if narrowed < 500 || opened < 100 {
		t.Errorf("not enough: %d, %d", narrowed, opened)
	}
}

// withNumber returns a plight with another number of beasts of a herd.
func withNumber(p api.Plight, at, number int) api.Plight {
	p.Herds = slices.Clone(p.Herds)
	p.Herds[at].Number = number
	return p
}

// P8.5: without the beasts that are to blame the value is less, without others the same; it stays with as many more as Spare says, and no longer.
func TestBlamesAndSpare(t *testing.T) {
	r := random(14)
	blamed, innocent, spared, ended := 0, 0, 0, 0
	for range 4000 {
		w := randomRules(r, 2, 2)
		p := randomPlight(r, pick(r, 6, 6, 100000))
		for i := range w.Fines {
			value, e := rule.Fine(w, i, p)
			if e != api.OK {
				continue
			}
			want, err := []string(nil), api.OK
			for at, h := range p.Herds {
				without, e := rule.Fine(w, i, withNumber(p, at, 0))
				err = max(err, e)
				if e == api.OK && share.Compare(without, value) < 0 {
					want = append(want, h.Sort)
				} else if e == api.OK && without != value {
					t.Errorf("%s: %v in %v, but %v without %s", rule.Print(w), value, p, without, h.Sort)
				}
			}
			slices.Sort(want)
			if err != api.OK {
				want = nil
			}
			if got, e := rule.Blames(w, i, p); !slices.Equal(got, want) || e != err {
				t.Errorf("Blames of %s in %v: %v, error %d, want %v, error %d", rule.Print(w), p, got, e, want, err)
			}
			if err == api.OK {
				blamed, innocent = blamed+len(want), innocent+len(p.Herds)-len(want)
			}
			for at, h := range p.Herds {
				most := pick(r, 0, r.IntN(8), 100)
				k := 0
				for k < most {
					v, e := rule.Fine(w, i, withNumber(p, at, h.Number+k+1))
					if e != api.OK || v != value {
						break
					}
					k++
				}
				if k == most {
					spared++
				} else {
					ended++
				}
				if got, e := rule.Spare(w, i, p, h.Sort, most); got != k || e != api.OK {
					t.Errorf("Spare of %s in %v of %s to %d: %d, error %d, want %d", rule.Print(w), p, h.Sort, most, got, e, k)
				}
			}
		}
	}
	if blamed < 500 || innocent < 500 || spared < 500 || ended < 500 {
		t.Errorf("not enough of each: %d, %d, %d, %d", blamed, innocent, spared, ended)
	}
}

// P8.6: what is idle is 0 in all plights; what is constant, in range and not idle is not.
func TestIdleIsNothing(t *testing.T) {
	r := random(15)
	idle, busy := 0, 0
	for range 6000 {
		w := randomRules(r, 4, 2)
		if len(w.Fines) > 0 && r.IntN(2) == 0 {
			w.Fines[0].When = less(num(r.IntN(4)), num(r.IntN(4))).expr()
		}
		if len(w.Fines) > 1 && r.IntN(2) == 0 {
			w.Fines[1].Pays = mul(num(r.IntN(2)), add(num(r.IntN(2)), num(r.IntN(2)))).expr()
		}
		l, e := rule.Idle(w)
		mustOK(t, "Idle", e)
		for i, x := range w.Fines {
			if slices.Contains(l, i) {
				idle++
				for range 4 {
					if v, e := rule.Fine(w, i, randomPlight(r, 9)); e != api.ErrLimit && (v != whole(0) || e != api.OK) {
						t.Errorf("%s: the fine %d is %v, error %d, though it is idle", rule.Print(w), i, v, e)
					}
				}
				continue
			}
			// It is not idle: no constant shows that it is nothing.
			none := api.Plight{Stints: whole(0)}
			when, e := rule.Holds(x.When, none)
			if constant(x.When) && e == api.OK && !when {
				t.Errorf("%s: the fine %d is not idle", rule.Print(w), i)
			}
			pays, e := rule.Value(x.Pays, none)
			if constant(x.Pays) && e == api.OK && pays == whole(0) {
				t.Errorf("%s: the fine %d is not idle", rule.Print(w), i)
			}
			busy++
		}
		if !slices.IsSorted(l) {
			t.Errorf("Idle: %v", l)
		}
	}
	if idle < 1000 || busy < 1000 {
		t.Errorf("not enough of each: %d, %d", idle, busy)
	}
}

// constant tells whether an expression looks at no plight.
func constant(e api.Expr) bool {
	for _, n := range e {
		switch n.Op {
		case api.OpHead, api.OpUse, api.OpStints, api.OpTick:
			return false
		}
	}
	return true
}

// P8.7: rules are read from their source exactly.
func TestParseInvertsPrint(t *testing.T) {
	r := random(16)
	sizes, fines := map[bool]int{}, 0
	for range 2500 {
		w := randomRules(r, pick(r, 3, 20), pick(r, 1, 2, 3, 4))
		src := rule.Print(w)
		if len(src) > api.MaxSource {
			continue
		}
		got, fault := rule.Parse(src)
		if !areSame(got, w) || fault != (api.Fault{}) {
			t.Errorf("Parse(%q): %v, fault %v, want %v", src, got, fault, w)
		}
		sizes[len(w.Seize) > 0]++
		fines += len(w.Fines)
	}
	if sizes[true] < 500 || sizes[false] < 250 || fines < 5000 {
		t.Errorf("not enough of each: %v, %d", sizes, fines)
	}
}

// P8.8: the total does not depend on the order of fines, no value on the order of herds.
func TestOrderOfFinesAndHerds(t *testing.T) {
	r := random(17)
	totals, values := 0, 0
	for range 5000 {
		w, p := randomRules(r, 5, 2), randomPlight(r, 20)
		turned := copyOf(w)
		r.Shuffle(len(turned.Fines), func(i, j int) { turned.Fines[i], turned.Fines[j] = turned.Fines[j], turned.Fines[i] })
		other := withMore(r, p, 0)
		r.Shuffle(len(other.Herds), func(i, j int) { other.Herds[i], other.Herds[j] = other.Herds[j], other.Herds[i] })
		for _, c := range []struct {
			w api.Rules
			p api.Plight
		}{{turned, p}, {w, other}, {turned, other}} {
			a, e := rule.Total(w, p)
			b, err := rule.Total(c.w, c.p)
			if e == api.OK && err == api.OK && a != b {
				t.Errorf("Total of %s in %v: %v, in another order %v", rule.Print(w), p, a, b)
			}
			if e == api.OK && len(w.Fines) > 1 {
				totals++
			}
		}
		x := randomNumber(r, 3)
		a, e := rule.Value(x.expr(), p)
		b, err := rule.Value(x.expr(), other)
		if e == api.OK && err == api.OK {
			values++
			if a != b {
				t.Errorf("Value of %s: %v in %v, %v in %v", x.source(false), a, p, b, other)
			}
		}
		is, e := rule.Seizes(w, p)
		if was, err := rule.Seizes(w, other); e == api.OK && err == api.OK && was != is {
			t.Errorf("Seizes of %s: %t in %v, %t in %v", rule.Print(w), is, p, was, other)
		}
	}
	if totals < 2000 || values < 2000 {
		t.Errorf("not enough: %d, %d", totals, values)
	}
}

// P8.8: the total is the sum of all fines, as they are alone.
func TestTotalIsTheSum(t *testing.T) {
	r := random(18)
	sums, limits := 0, 0
	for range 5000 {
		w, p := randomRules(r, 4, 2), randomPlight(r, pick(r, 20, 100000))
		want, err := whole(0), api.OK
		for i := range w.Fines {
			v, e := rule.Fine(w, i, p)
			if err == api.OK {
				err = e
			}
			if err == api.OK {
				want, err = share.Add(want, v)
			}
		}
		if err == api.OK {
			sums++
		} else {
			want = api.Frac{}
			limits++
		}
		if got, e := rule.Total(w, p); got != want || e != err {
			t.Errorf("Total of %s in %v: %v, error %d, want %v, error %d", rule.Print(w), p, got, e, want, err)
		}
	}
	if sums < 1000 || limits < 100 {
		t.Errorf("not enough of each: %d, %d", sums, limits)
	}
}

// P8.3: fines as the chapter's words make them of the values of their parts.
func TestFinesOfTrees(t *testing.T) {
	r := random(19)
	due, not, limits := 0, 0, 0
	for range 10000 {
		when, amount := growing(r, 1+r.IntN(3), true), rising(r, r.IntN(3), true)
		w := api.Rules{Fines: []api.Fine{over(), fine("a", when, amount)}, Seize: when.expr()}
		want := api.OK
		if amount.low() == nil || amount.trend().down || when.trend().down {
			want = api.ErrFalls
		}
		if e := rule.Check(w); e != want {
			t.Errorf("Check of %s, %s: error %d, want %d", when.source(false), amount.source(false), e, want)
		}
		if want != api.OK {
			continue
		}
		p := randomPlight(r, 9)
		is, sum := when.in(p), amount.in(p)
		value, e := rule.Fine(w, 1, p)
		switch {
		case !is.ok || !sum.ok:
			limits++
			if value != (api.Frac{}) || e != api.ErrLimit {
				t.Errorf("Fine of %s in %v: %v, error %d, want ErrLimit", rule.Print(w), p, value, e)
			}
		case is.truth:
			due++
			if value != frac(sum.number) || e != api.OK {
				t.Errorf("Fine of %s in %v: %v, error %d, want %v", rule.Print(w), p, value, e, sum.number)
			}
		default:
			not++
			if value != whole(0) || e != api.OK {
				t.Errorf("Fine of %s in %v: %v, error %d, want 0", rule.Print(w), p, value, e)
			}
		}
		if seized, e := rule.Seizes(w, p); is.ok && (seized != is.truth || e != api.OK) || !is.ok && (seized || e != api.ErrLimit) {
			t.Errorf("Seizes of %s in %v: %t, error %d, want %t", rule.Print(w), p, seized, e, is.truth)
		}
	}
	if due < 1000 || not < 1000 || limits < 100 {
		t.Errorf("not enough of each: %d, %d, %d", due, not, limits)
	}
}
