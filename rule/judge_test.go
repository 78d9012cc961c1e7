package rule_test

import (
	"math"
	"slices"
	"testing"

	"couchant/api"
	"couchant/rule"
)

func verdict(kind uint8, least, greatest int) api.Verdict {
	return api.Verdict{Kind: kind, Least: whole(least), Greatest: whole(greatest)}
}

// C5: the examples, and the other kinds.
func TestJudge(t *testing.T) {
	w := sample(t)
	for _, c := range []struct {
		i         int
		low, high api.Plight
		want      api.Verdict
	}{
		{0, plight(4, 4), plight(4, 8), verdict(api.VerdictOpen, 0, 36)},
		{0, plight(4, 6), plight(5, 8), verdict(api.VerdictSure, 30, 48)},
		{0, plight(4, 4), plight(4, 4), verdict(api.VerdictNone, 0, 0)},
		{0, plight(0, 0), plight(4, 4), verdict(api.VerdictNone, 0, 0)},
		{0, plight(4, 6), plight(4, 6), verdict(api.VerdictSure, 30, 30)},
		{1, plight(0, 0), plight(1, 0), verdict(api.VerdictOpen, 0, 5)},
		{1, plight(1, 0), plight(9, 9), verdict(api.VerdictSure, 5, 5)},
		{1, plight(0, 0), plight(0, 9), verdict(api.VerdictNone, 0, 0)},
	} {
		if got, e := rule.Judge(w, c.i, c.low, c.high); got != c.want || e != api.OK {
			t.Errorf("Judge(%d, %v, %v): %v, error %d, want %v", c.i, c.low, c.high, got, e, c.want)
		}
		all, e := rule.JudgeAll(w, c.low, c.high)
		if e != api.OK || len(all) != 2 || all[c.i] != c.want {
			t.Errorf("JudgeAll(%v, %v): %v, error %d, want %v at %d", c.low, c.high, all, e, c.want, c.i)
		}
	}
	// A fine of nothing is sure all the same.
	w = parsed(t, "fine a when cow > 1 pays max(0, cow - 5)")
	if got, e := rule.Judge(w, 0, plight(2, 0), plight(5, 0)); got != verdict(api.VerdictSure, 0, 0) || e != api.OK {
		t.Errorf("Judge of nothing: %v, error %d", got, e)
	}
	if got, e := rule.JudgeAll(api.Rules{}, plight(0, 0), plight(1, 1)); len(got) != 0 || e != api.OK {
		t.Errorf("JudgeAll of no fines: %v, error %d", got, e)
	}
}

// C5: the kinds for Seize.
func TestMaySeize(t *testing.T) {
	w := sample(t)
	for _, c := range []struct {
		low, high api.Plight
		want      uint8
	}{
		{plight(4, 6), plight(6, 6), api.VerdictOpen}, {plight(6, 1), plight(6, 6), api.VerdictSure}, {plight(6, 1), plight(6, 1), api.VerdictSure}, {plight(4, 0), plight(6, 0), api.VerdictNone},
	} {
		if got, e := rule.MaySeize(w, c.low, c.high); got != c.want || e != api.OK {
			t.Errorf("MaySeize(%v, %v): %d, error %d, want %d", c.low, c.high, got, e, c.want)
		}
	}
	w.Seize = nil
	if got, e := rule.MaySeize(w, plight(0, 0), plight(100, 100)); got != api.VerdictNone || e != api.OK {
		t.Errorf("MaySeize without nodes: %d, error %d", got, e)
	}
}

// C5: what two plights need to be the ends of something.
func TestEnds(t *testing.T) {
	w := sample(t)
	judged := func(low, high api.Plight, want api.Errno) {
		t.Helper()
		got, e := rule.Judge(w, 0, low, high)
		if e != want || e != api.OK && got != (api.Verdict{}) {
			t.Errorf("Judge(%v, %v): %v, error %d, want %d", low, high, got, e, want)
		}
		all, e := rule.JudgeAll(w, low, high)
		if e != want || e != api.OK && len(all) > 0 {
			t.Errorf("JudgeAll(%v, %v): %v, error %d, want %d", low, high, all, e, want)
		}
		for _, w := range []api.Rules{w, {}} {
			kind, e := rule.MaySeize(w, low, high)
			if e != want || e != api.OK && kind != 0 {
				t.Errorf("MaySeize(%v, %v): %d, error %d, want %d", low, high, kind, e, want)
			}
		}
		if got, e := rule.Judge(w, 2, low, high); got != (api.Verdict{}) || e != api.ErrNone {
			t.Errorf("Judge of no fine: %v, error %d", got, e)
		}
	}
	low := plight(4, 6)
	judged(low, plight(4, 6), api.OK)
	judged(low, plight(5, 6), api.OK)
	judged(low, plight(4, 100000), api.OK)
	for _, change := range []func(p *api.Plight){
		func(p *api.Plight) { p.Tick = 5 }, func(p *api.Plight) { p.Stints = whole(4) }, func(p *api.Plight) { p.Stints = f(6, 2) }, func(p *api.Plight) { p.Herds[0].Number = 3 }, func(p *api.Plight) { p.Herds[1].Number = 5 }, func(p *api.Plight) { p.Herds[1].Each = f(1, 5) }, func(p *api.Plight) { p.Herds[0].Sort = "bull" },
		func(p *api.Plight) { p.Herds[0], p.Herds[1] = p.Herds[1], p.Herds[0] }, func(p *api.Plight) { p.Herds = p.Herds[:1] }, func(p *api.Plight) { p.Herds = nil }, func(p *api.Plight) { p.Herds = append(p.Herds, api.Herd{Sort: "bull", Each: whole(1)}) },
		func(p *api.Plight) { p.Herds[0].Number = 100001 }, func(p *api.Plight) { p.Herds[1].Number = math.MaxInt },
	} {
		high := plight(7, 9)
		judged(low, high, api.OK)
		change(&high)
		judged(low, high, api.ErrArg)
	}
	// Both can be wrong in the same way.
	for _, change := range []func(p *api.Plight){
		func(p *api.Plight) { p.Tick = 25 }, func(p *api.Plight) { p.Stints = whole(-1) }, func(p *api.Plight) { p.Herds[0].Sort = "Cow" }, func(p *api.Plight) { p.Herds[0].Each = f(2, 2) }, func(p *api.Plight) { p.Herds[0].Number -= 5 }, func(p *api.Plight) { p.Herds[0].Sort = "sheep" },
	} {
		a, b := plight(4, 6), plight(4, 6)
		change(&a)
		change(&b)
		judged(a, b, api.ErrArg)
		judged(plight(4, 6), b, api.ErrArg)
		judged(a, plight(4, 6), api.ErrArg)
	}
	judged(api.Plight{Stints: whole(1)}, api.Plight{Stints: whole(1), Herds: []api.Herd{}}, api.OK)
}

// C5: values at the ends that are not in range; what lies between is not looked at.
func TestJudgeNotInRange(t *testing.T) {
	w := parsed(t, "fine a when cow > 1 pays 1", "fine b when cow > 1 pays cow * 1/999983 + sheep * 1/999979 + 2", "seize when cow * 1/999983 + sheep * 1/999979 > 0")
	for _, c := range []struct {
		low, high api.Plight
		want      api.Errno
	}{
		{plight(1, 0), plight(2, 0), api.OK}, {plight(0, 0), plight(1, 1), api.ErrLimit}, {plight(1, 1), plight(999983/10, 1), api.ErrLimit}, {plight(1, 1), plight(1, 1), api.ErrLimit}, {plight(0, 1), plight(0, 7), api.OK},
	} {
		got, e := rule.Judge(w, 1, c.low, c.high)
		if e != c.want || e != api.OK && got != (api.Verdict{}) {
			t.Errorf("Judge(%v, %v): %v, error %d, want %d", c.low, c.high, got, e, c.want)
		}
		if _, e := rule.Judge(w, 0, c.low, c.high); e != api.OK {
			t.Errorf("Judge(%v, %v) of another fine: error %d", c.low, c.high, e)
		}
		all, e := rule.JudgeAll(w, c.low, c.high)
		if e != c.want || e != api.OK && len(all) > 0 {
			t.Errorf("JudgeAll(%v, %v): %v, error %d, want %d", c.low, c.high, all, e, c.want)
		}
		kind, e := rule.MaySeize(w, c.low, c.high)
		if e != c.want || e != api.OK && kind != 0 {
			t.Errorf("MaySeize(%v, %v): %d, error %d, want %d", c.low, c.high, kind, e, c.want)
		}
	}
	// It is in range at the high end alone.
	w = parsed(t, "fine a when 1 < 2 pays cow * 1/3 + sheep * 1/999983", "seize when 0 < cow * 1/3 + sheep * 1/999983")
	p := plight(3, 1)
	if got, e := rule.Judge(w, 0, p, p); got != (api.Verdict{Kind: api.VerdictSure, Least: f(999984, 999983), Greatest: f(999984, 999983)}) || e != api.OK {
		t.Errorf("Judge: %v, error %d", got, e)
	}
	if got, e := rule.Judge(w, 0, plight(2, 1), p); got != (api.Verdict{}) || e != api.ErrLimit {
		t.Errorf("Judge whose low end is not in range: %v, error %d", got, e)
	}
	if got, e := rule.MaySeize(w, plight(2, 1), p); got != 0 || e != api.ErrLimit {
		t.Errorf("MaySeize whose low end is not in range: %v, error %d", got, e)
	}
}

// C6: the examples, and other blames.
func TestBlames(t *testing.T) {
	w := sample(t)
	for _, c := range []struct {
		i    int
		p    api.Plight
		want []string
	}{
		{0, plight(4, 6), []string{"cow", "sheep"}}, {0, plight(4, 4), nil}, {0, plight(6, 0), []string{"cow"}}, {0, plight(0, 30), []string{"sheep"}}, {1, plight(4, 6), []string{"cow"}}, {1, plight(0, 6), nil}, {0, plight(0, 0), nil},
	} {
		if got, e := rule.Blames(w, c.i, c.p); !slices.Equal(got, c.want) || e != api.OK {
			t.Errorf("Blames(%d, %v): %v, error %d, want %v", c.i, c.p, got, e, c.want)
		}
	}
	// The names are put in order, whatever that of the herds is.
	p := api.Plight{Stints: whole(0), Herds: []api.Herd{{Sort: "b", Number: 1, Each: whole(1)}, {Sort: "c", Number: 0, Each: whole(1)}, {Sort: "a-", Number: 1, Each: whole(1)}, {Sort: "a", Number: 1, Each: whole(1)}, {Sort: "use", Number: 1, Each: whole(1)}}}
	if got, e := rule.Blames(w, 0, p); !slices.Equal(got, []string{"a", "a-", "b", "use"}) || e != api.OK {
		t.Errorf("Blames: %v, error %d", got, e)
	}
	// Two sorts of which one is enough are both not to blame.
	w = parsed(t, "fine a when cow > 1 or sheep > 1 pays 5")
	if got, e := rule.Blames(w, 0, plight(2, 2)); len(got) != 0 || e != api.OK {
		t.Errorf("Blames: %v, error %d", got, e)
	}
	if got, e := rule.Blames(w, 0, plight(2, 1)); !slices.Equal(got, []string{"cow"}) || e != api.OK {
		t.Errorf("Blames: %v, error %d", got, e)
	}
	// The amount is less, though it is due still.
	w = parsed(t, "fine a when 1 < 2 pays 1 + cow")
	if got, e := rule.Blames(w, 0, plight(2, 1)); !slices.Equal(got, []string{"cow"}) || e != api.OK {
		t.Errorf("Blames: %v, error %d", got, e)
	}
}

// C6: errors of Blames, also where a value without some beasts is not in range.
func TestBlamesErrors(t *testing.T) {
	w := parsed(t, "fine a when 1 < 2 pays cow * 1/3 + sheep * 1/999983 + goat * 1/333331")
	p := plight(3, 1)
	p.Herds[0].Number = 2
	blames := func(i int, p api.Plight, want api.Errno) {
		t.Helper()
		if got, e := rule.Blames(w, i, p); len(got) > 0 || e != want {
			t.Errorf("Blames(%d, %v): %v, error %d, want %d", i, p, got, e, want)
		}
	}
	blames(0, p, api.ErrLimit)
	blames(1, p, api.ErrNone)
	blames(-1, p, api.ErrNone)
	p.Herds[1].Number = -1
	blames(1, p, api.ErrNone)
	blames(0, p, api.ErrArg)
	// 2/3 + 1/3 are in range with the sheep's part, 2/3 alone is not.
	w = parsed(t, "fine a when 1 < 2 pays cow * 1/3 + goat * 1/3 + sheep * 1/999983")
	p = api.Plight{Stints: whole(0), Herds: []api.Herd{{Sort: "cow", Number: 2, Each: whole(1)}, {Sort: "goat", Number: 1, Each: whole(1)}, {Sort: "sheep", Number: 1, Each: whole(1)}}}
	if got, e := rule.Fine(w, 0, p); got != f(999984, 999983) || e != api.OK {
		t.Errorf("Fine: %v, error %d", got, e)
	}
	blames(0, p, api.ErrLimit)
	p.Herds[1].Number, p.Herds[0].Number = 0, 3
	if got, e := rule.Blames(w, 0, p); !slices.Equal(got, []string{"cow", "sheep"}) || e != api.OK {
		t.Errorf("Blames: %v, error %d", got, e)
	}
}

// C6: the examples, and other numbers of beasts that may be added.
func TestSpare(t *testing.T) {
	w := sample(t)
	for _, c := range []struct {
		i    int
		p    api.Plight
		sort string
		most int
		want int
	}{
		{1, plight(0, 6), "cow", 10, 0}, {1, plight(0, 6), "sheep", 10, 10}, {1, plight(0, 6), "sheep", 100, 100}, {1, plight(0, 6), "sheep", 0, 0}, {1, plight(1, 6), "cow", 7, 7},
		{0, plight(4, 0), "sheep", 100, 4}, {0, plight(4, 0), "sheep", 4, 4}, {0, plight(4, 0), "sheep", 3, 3}, {0, plight(4, 0), "cow", 100, 1}, {0, plight(4, 6), "sheep", 100, 0}, {0, plight(4, 4), "cow", 100, 0},
		// No more than 100000 beasts are valid.
		{1, plight(0, 99997), "sheep", 100, 3}, {1, plight(0, 99997), "sheep", 2, 2}, {1, plight(0, 100000), "sheep", 100, 0},
	} {
		if got, e := rule.Spare(w, c.i, c.p, c.sort, c.most); got != c.want || e != api.OK {
			t.Errorf("Spare(%d, %v, %s, %d): %d, error %d, want %d", c.i, c.p, c.sort, c.most, got, e, c.want)
		}
	}
	// A value that is not in range ends it, whatever comes behind; that of another fine is nothing to it.
	w = parsed(t, "fine a when 1 < 2 pays min(1, 1 + cow * 1/999983 + goat * 1/3)", "fine b when 1 < 2 pays 1", "fine c when 1 < 2 pays 1 + 1000000 * 1000000 * cow", "fine d when 1 < 2 or 1/999983 * cow + 1/3 * goat > 0 pays 2")
	p := api.Plight{Stints: whole(0), Herds: []api.Herd{{Sort: "goat", Number: 0, Each: whole(1)}, {Sort: "cow", Number: 1, Each: whole(1)}}}
	for i, want := range []int{0, 100, 0, 0} {
		if i == 2 {
			p.Herds[1].Number = 0
		}
		got, e := rule.Spare(w, i, p, "goat", 100)
		if i == 2 {
			got, e = rule.Spare(w, i, p, "cow", 100)
			p.Herds[1].Number = 1
		}
		if got != want || e != api.OK {
			t.Errorf("Spare(%d, %v): %d, error %d, want %d", i, p, got, e, want)
		}
	}
}

// C6: the errors of Spare, in their order.
func TestSpareErrors(t *testing.T) {
	w := parsed(t, "fine a when 1 < 2 pays min(1, 1 + cow * 1/999983 + goat * 1/3)", "fine b when 1 < 2 pays 1")
	far := api.Plight{Stints: whole(0), Herds: []api.Herd{{Sort: "goat", Number: 1, Each: whole(1)}, {Sort: "cow", Number: 1, Each: whole(1)}}}
	bad := far
	bad.Tick = -1
	for _, c := range []struct {
		i    int
		p    api.Plight
		sort string
		most int
		want api.Errno
	}{
		{2, bad, "ewe", 101, api.ErrNone}, {-1, far, "cow", 10, api.ErrNone}, {0, bad, "ewe", 10, api.ErrArg}, {0, bad, "cow", 10, api.ErrArg}, {0, far, "ewe", 101, api.ErrArg}, {0, far, "cow", -1, api.ErrArg}, {0, far, "cow", math.MaxInt, api.ErrArg}, {0, far, "cow", math.MinInt, api.ErrArg},
		{0, far, "ewe", 100, api.ErrNone}, {0, far, "", 0, api.ErrNone}, {1, far, "Cow", 0, api.ErrNone}, {0, far, "cow", 0, api.ErrLimit}, {0, far, "goat", 100, api.ErrLimit}, {1, far, "goat", 100, api.OK}, {1, far, "cow", 0, api.OK},
	} {
		got, e := rule.Spare(w, c.i, c.p, c.sort, c.most)
		if e != c.want || e != api.OK && got != 0 || e == api.OK && got != c.most {
			t.Errorf("Spare(%d, %v, %q, %d): %d, error %d, want %d", c.i, c.p, c.sort, c.most, got, e, c.want)
		}
	}
}
