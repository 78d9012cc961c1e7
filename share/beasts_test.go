package share_test

import (
	"math"
	"math/big"
	"slices"
	"strings"
	"testing"

	"couchant/api"
	"couchant/share"
)

func head(sort string, n int) api.Head { return api.Head{Sort: sort, Number: n} }

// badHeads are heads that are not as they have to be.
func badHeads() map[string][]api.Head {
	many := []api.Head{head("cow", 1)}
	for i := range api.MaxSorts {
		many = append(many, head("a"+string(rune('a'+i)), 1))
	}
	return map[string][]api.Head{
		"13 sorts":          many,
		"-1 beasts":         {head("cow", -1)},
		"100001 beasts":     {head("cow", api.MaxBeasts+1)},
		"the least beasts":  {head("cow", math.MinInt)},
		"no sort":           {head("", 1)},
		"a sort in capital": {head("Cow", 1)},
		"a long sort":       {head(strings.Repeat("a", api.MaxName+1), 1)},
		"a sort twice":      {head("cow", 1), head("sheep", 1), head("cow", 0)},
		"a bad second":      {head("goat", 1), head("cow", -1)},
	}
}

// steep is a table whose multiples are soon out of range.
func steep() []api.Equal {
	return []api.Equal{
		equal(1, 0, "odd", 0, 999960999, 999961), // 99996099900000/999961 for 100000
		equal(2, 0, "tiny", 0, 1, api.MaxDen),
		equal(3, 0, "fine", 0, 1, 999983),
		equal(4, 0, "big", 0, api.MaxStints, 1),
		equal(5, 0, "one", 0, 1, 1),
	}
}

// twelve is a table of twelve sorts, and heads of all of them.
func twelve() ([]api.Equal, []api.Head) {
	var l []api.Equal
	var heads []api.Head
	for i := range api.MaxSorts {
		sort := "a" + string(rune('a'+i))
		l = append(l, equal(1+i, 0, sort, 0, 1+i, 1))
		heads = append(heads, head(sort, 2))
	}
	return l, heads
}

// A7.
func TestUsesAndExcess(t *testing.T) {
	l := sample()
	all, heads := twelve()
	for _, x := range []struct {
		name       string
		l          []api.Equal
		heads      []api.Head
		day, known int
		want       api.Frac
		e          api.Errno
	}{
		{"the example", l, []api.Head{head("cow", 2), head("sheep", 10)}, 0, 0, f(9, 2), api.OK},
		{"another day", l, []api.Head{head("cow", 2), head("sheep", 10)}, 100, 10, f(4, 1), api.OK},
		{"another day, known later", l, []api.Head{head("cow", 2), head("sheep", 10)}, 100, 20, f(9, 2), api.OK},
		{"nothing", l, nil, 0, 0, f(0, 1), api.OK},
		{"nothing, by nothing", nil, nil, 0, 0, f(0, 1), api.OK},
		{"no beasts", l, []api.Head{head("cow", 0)}, 0, 0, f(0, 1), api.OK},
		{"twelve sorts", all, heads, 0, 0, f(156, 1), api.OK},
		{"100000 beasts", steep(), []api.Head{head("big", api.MaxBeasts)}, 0, 0, f(100000000, 1), api.OK},
		{"no equivalent", l, []api.Head{head("cow", 1), head("goat", 0)}, 0, 0, api.Frac{}, api.ErrSort},
		{"not in force yet", l, []api.Head{head("cow", 1)}, -1, 0, api.Frac{}, api.ErrSort},
		{"not known yet", l, []api.Head{head("cow", 1)}, 0, -1, api.Frac{}, api.ErrSort},
		{"a product out of range", steep(), []api.Head{head("odd", api.MaxBeasts)}, 0, 0, api.Frac{}, api.ErrLimit},
		{"a sum out of range", steep(), []api.Head{head("tiny", 1), head("fine", 1)}, 0, 0, api.Frac{}, api.ErrLimit},
		{"no equivalent behind what is out of range", steep(), []api.Head{head("odd", api.MaxBeasts), head("goat", 1)}, 0, 0, api.Frac{}, api.ErrSort},
		{"no table", faulty(), []api.Head{head("", -1)}, 0, 0, api.Frac{}, api.ErrTwice},
	} {
		if got, e := share.Uses(x.l, x.heads, x.day, x.known); got != x.want || e != x.e {
			t.Errorf("Uses of %s: %v, error %d", x.name, got, e)
		}
		if got, e := share.Excess(x.l, x.heads, f(0, 1), x.day, x.known); got != x.want || e != x.e {
			t.Errorf("Excess of %s: %v, error %d", x.name, got, e)
		}
	}
	for name, heads := range badHeads() {
		if got, e := share.Uses(l, heads, 0, 0); got != (api.Frac{}) || e != api.ErrArg {
			t.Errorf("Uses of %s: %v, error %d", name, got, e)
		}
		if got, e := share.Excess(l, heads, f(1, 1), 0, 0); got != (api.Frac{}) || e != api.ErrArg {
			t.Errorf("Excess of %s: %v, error %d", name, got, e)
		}
	}
}

// A7.
func TestExcess(t *testing.T) {
	l := sample()
	heads := []api.Head{head("cow", 2), head("sheep", 10)}
	for _, x := range []struct {
		name   string
		l      []api.Equal
		heads  []api.Head
		stints api.Frac
		want   api.Frac
		e      api.Errno
	}{
		{"over", l, heads, f(4, 1), f(1, 2), api.OK},
		{"under", l, heads, f(5, 1), f(-1, 2), api.OK},
		{"less than none", l, heads, f(-5, 1), f(19, 2), api.OK},
		{"a difference out of range", l, heads, f(-api.MaxNum, 1), api.Frac{}, api.ErrLimit},
		{"a difference too fine", steep(), []api.Head{head("tiny", 1)}, f(1, 999983), api.Frac{}, api.ErrLimit},
		{"a sum out of range, whatever is taken away", steep(), []api.Head{head("tiny", 1), head("fine", 1)}, f(1, 999983), api.Frac{}, api.ErrLimit},
		{"no table", faulty(), heads, api.Frac{}, api.Frac{}, api.ErrTwice},
	} {
		if got, e := share.Excess(x.l, x.heads, x.stints, 0, 0); got != x.want || e != x.e {
			t.Errorf("Excess of %s: %v, error %d", x.name, got, e)
		}
	}
	for _, bad := range badFractions() {
		if got, e := share.Excess(l, []api.Head{head("goat", 1)}, bad, 0, 0); got != (api.Frac{}) || e != api.ErrArg {
			t.Errorf("Excess over %v: %v, error %d", bad, got, e)
		}
	}
}

// A8.
func TestMost(t *testing.T) {
	l := append(sample(), equal(6, 20, "tiny", 0, 1, api.MaxDen), equal(7, 20, "big", 0, api.MaxStints, 1))
	for _, x := range []struct {
		sort       string
		stints     api.Frac
		day, known int
		want       int
		e          api.Errno
	}{
		{"sheep", f(5, 2), 0, 0, 10, api.OK},
		{"sheep", f(5, 2), 100, 10, 12, api.OK},
		{"couple", f(5, 2), 0, 0, 6, api.OK},
		{"couple", f(9, 4), 0, 0, 6, api.OK},
		{"couple", f(899999, 400000), 0, 0, 5, api.OK},
		{"cow", f(0, 1), 0, 0, 0, api.OK},
		{"cow", f(-1, 1), 0, 0, 0, api.OK},
		{"cow", f(-1, api.MaxDen), 0, 0, 0, api.OK},
		{"cow", f(api.MaxBeasts-1, 1), 0, 0, api.MaxBeasts - 1, api.OK},
		{"cow", f(api.MaxBeasts+1, 1), 0, 0, api.MaxBeasts, api.OK},
		{"tiny", f(api.MaxNum, 1), 0, 20, api.MaxBeasts, api.OK},
		{"tiny", f(1, 1000), 0, 20, 1000, api.OK},
		{"big", f(999, 1), 0, 20, 0, api.OK},
		{"big", f(1000, 1), 0, 20, 1, api.OK},
		{"big", f(-api.MaxNum, 1), 0, 20, 0, api.OK},
		{"goat", f(1, 1), 0, 20, 0, api.ErrSort},
		{"goat", f(-1, 1), 0, 20, 0, api.ErrSort},
		{"", f(1, 1), 0, 20, 0, api.ErrSort},
		{"cow", f(1, 1), -1, 20, 0, api.ErrSort},
		{"cow", f(1, 1), 0, -1, 0, api.ErrSort},
	} {
		if got, e := share.Most(l, x.sort, x.stints, x.day, x.known); got != x.want || e != x.e {
			t.Errorf("Most(%s, %v, %d, %d): %d, error %d", x.sort, x.stints, x.day, x.known, got, e)
		}
	}
	for _, bad := range badFractions() {
		for _, sort := range []string{"cow", "goat"} {
			if got, e := share.Most(l, sort, bad, 0, 0); got != 0 || e != api.ErrArg {
				t.Errorf("Most on %v: %d, error %d", bad, got, e)
			}
		}
	}
	if got, e := share.Most(faulty(), "cow", api.Frac{}, 0, 0); got != 0 || e != api.ErrTwice {
		t.Errorf("Most by a list that is no table: %d, error %d", got, e)
	}
}

// A8.
func TestExchange(t *testing.T) {
	l := append(sample(),
		equal(6, 20, "tiny", 0, 1, api.MaxDen), equal(7, 20, "big", 0, 999999999, api.MaxDen), equal(8, 20, "odd", 0, 999960999, 999961))
	for _, x := range []struct {
		from, to string
		n        int
		want     int
		e        api.Errno
	}{
		{"cow", "sheep", 3, 12, api.OK},
		{"sheep", "cow", 3, 0, api.OK},
		{"sheep", "cow", 4, 1, api.OK},
		{"cow", "couple", 1, 2, api.OK},
		{"cow", "cow", api.MaxBeasts, api.MaxBeasts, api.OK},
		{"cow", "sheep", 25000, api.MaxBeasts, api.OK},
		{"cow", "sheep", 24999, 99996, api.OK},
		{"cow", "sheep", 25001, api.MaxBeasts, api.OK},
		{"cow", "sheep", 0, 0, api.OK},
		{"odd", "tiny", api.MaxBeasts, api.MaxBeasts, api.OK},
		{"big", "tiny", api.MaxBeasts, api.MaxBeasts, api.OK},
		{"odd", "odd", api.MaxBeasts, api.MaxBeasts, api.OK}, // what they take up is not in range, and its cross product needs 67 bits
		{"odd", "odd", 99999, 99999, api.OK},
		{"tiny", "odd", api.MaxBeasts, 0, api.OK},
		{"cow", "sheep", -1, 0, api.ErrArg},
		{"cow", "sheep", api.MaxBeasts + 1, 0, api.ErrArg},
		{"goat", "cow", -1, 0, api.ErrArg},
		{"goat", "cow", 1, 0, api.ErrSort},
		{"cow", "goat", 0, 0, api.ErrSort},
		{"", "", 0, 0, api.ErrSort},
	} {
		if got, e := share.Exchange(l, x.from, x.to, x.n, 0, 20); got != x.want || e != x.e {
			t.Errorf("Exchange(%s, %s, %d): %d, error %d", x.from, x.to, x.n, got, e)
		}
	}
	if got, e := share.Exchange(l, "cow", "sheep", 3, 100, 10); got != 15 || e != api.OK {
		t.Errorf("Exchange on another day: %d, error %d", got, e)
	}
	if got, e := share.Exchange(faulty(), "cow", "cow", -1, 0, 0); got != 0 || e != api.ErrTwice {
		t.Errorf("Exchange by a list that is no table: %d, error %d", got, e)
	}
}

// A8.
func TestFill(t *testing.T) {
	l := sample()
	wants := []api.Head{head("cow", 2), head("sheep", 10), head("couple", 5)}
	for _, x := range []struct {
		name       string
		l          []api.Equal
		wants      []api.Head
		stints     api.Frac
		day, known int
		want       []int
		e          api.Errno
	}{
		{"the example", l, wants, f(4, 1), 0, 0, []int{2, 8, 0}, api.OK},
		{"another day", l, wants, f(4, 1), 100, 10, []int{2, 10, 0}, api.OK},
		{"a later head that fits where one before does not", l, []api.Head{head("cow", 2), head("couple", 5)}, f(7, 8), 0, 0, []int{0, 2}, api.OK},
		{"more than wanted", l, wants, f(100, 1), 0, 0, []int{2, 10, 5}, api.OK},
		{"no stints", l, wants, f(0, 1), 0, 0, []int{0, 0, 0}, api.OK},
		{"less than no stints", l, wants, f(-1, 2), 0, 0, []int{0, 0, 0}, api.OK},
		{"the least stints", l, wants, f(-api.MaxNum, 1), 0, 0, []int{0, 0, 0}, api.OK},
		{"nothing", l, nil, f(1, 1), 0, 0, nil, api.OK},
		{"no equivalent", l, []api.Head{head("cow", 1), head("goat", 0)}, f(0, 1), 0, 0, nil, api.ErrSort},
		{"a product out of range", steep(), []api.Head{head("odd", api.MaxBeasts)}, f(api.MaxNum, 1), 0, 0, nil, api.ErrLimit},
		{"a product that only the wanted number has", steep(), []api.Head{head("odd", api.MaxBeasts)}, f(0, 1), 0, 0, []int{0}, api.OK},
		{"what is left out of range", steep(), []api.Head{head("one", 1), head("tiny", 1)}, f(999984, 999983), 0, 0, nil, api.ErrLimit},
		{"what is left out of range, in the middle", steep(), []api.Head{head("tiny", 1), head("one", 1)}, f(999984, 999983), 0, 0, nil, api.ErrLimit},
		{"no equivalent behind what is out of range", steep(), []api.Head{head("odd", api.MaxBeasts), head("goat", 1)}, f(api.MaxNum, 1), 0, 0, nil, api.ErrSort},
		{"no table", faulty(), []api.Head{head("", 1)}, api.Frac{}, 0, 0, nil, api.ErrTwice},
	} {
		var want []api.Head
		for i, n := range x.want {
			want = append(want, head(x.wants[i].Sort, n))
		}
		if got, e := share.Fill(x.l, x.wants, x.stints, x.day, x.known); !slices.Equal(got, want) || e != x.e {
			t.Errorf("Fill with %s: %v, error %d", x.name, got, e)
		}
	}
	for name, wants := range badHeads() {
		if got, e := share.Fill(l, wants, f(1, 1), 0, 0); len(got) > 0 || e != api.ErrArg {
			t.Errorf("Fill with %s: %v, error %d", name, got, e)
		}
	}
	for _, bad := range badFractions() {
		if got, e := share.Fill(l, []api.Head{head("goat", 1)}, bad, 0, 0); len(got) > 0 || e != api.ErrArg {
			t.Errorf("Fill on %v: %v, error %d", bad, got, e)
		}
	}
}

// herd is a table with random equivalents of some sorts, and heads of them.
func herd(pickNum func() api.Frac, count func() int) ([]api.Equal, []api.Head) {
	var l []api.Equal
	var heads []api.Head
	for i, sort := range []string{"cow", "ewe", "ass", "ram"} {
		each := pickNum()
		l = append(l, api.Equal{Id: 1 + i, Sort: sort, Stints: each})
		heads = append(heads, head(sort, count()))
	}
	return l, heads
}

// P1.1 (A7): against exact sums.
func TestUsesAtRandom(t *testing.T) {
	r := random(21)
	for range 1500 {
		den := pick(r, 12, 1000, api.MaxDen)
		each := func() api.Frac {
			x := big.NewRat(int64(1+r.IntN(9*den)), int64(den-r.IntN(5)))
			return f(int(x.Num().Int64()), int(x.Denom().Int64()))
		}
		l, heads := herd(each, func() int { return r.IntN(pick(r, 3, 100, api.MaxBeasts+1)) })
		sum, over := new(big.Rat), false
		for i, h := range heads {
			takes := new(big.Rat).Mul(big.NewRat(int64(h.Number), 1), rat(l[i].Stints))
			sum.Add(sum, takes)
			over = over || !inRange(takes) || !inRange(sum)
		}
		want, g := wanted(sum)
		if over {
			want, g = api.Frac{}, api.ErrLimit
		}
		if got, e := share.Uses(l, heads, 0, 0); got != want || e != g {
			t.Errorf("Uses(%v, %v): %v, error %d; want %v, %d", l, heads, got, e, want, g)
		}
	}
}

// P1.4.
func TestUsesAddUp(t *testing.T) {
	r := random(22)
	for range 500 {
		l, heads := herd(func() api.Frac { return pick(r, f(1, 4), f(3, 8), f(1, 1), f(7, 3), f(1000, 1)) }, func() int { return r.IntN(api.MaxBeasts) })
		all, e := share.Uses(l, heads, 0, 0)
		mustOK(t, "Uses", e)
		var parts []api.Frac
		for _, h := range heads {
			part, e := share.Uses(l, []api.Head{h}, 0, 0)
			mustOK(t, "Uses", e)
			parts = append(parts, part)
		}
		if sum, e := share.Sum(parts); sum != all || e != api.OK {
			t.Errorf("Uses(%v, %v): %v, but the parts are %v, error %d", l, heads, all, sum, e)
		}
		more := slices.Clone(heads)
		more[r.IntN(len(more))].Number++
		if uses, e := share.Uses(l, more, 0, 0); e != api.OK || share.Compare(uses, all) < 0 {
			t.Errorf("Uses(%v, %v): %v, error %d, less than %v", l, more, uses, e, all)
		}
	}
}

// randomEach returns stints that a beast can take up, often with great terms.
func randomEach(r interface{ IntN(int) int }) api.Frac {
	den := 1 + r.IntN(api.MaxDen)
	if r.IntN(2) == 0 {
		den = 1 + r.IntN(12)
	}
	x := big.NewRat(int64(1+r.IntN(den*(1+r.IntN(api.MaxStints)))), int64(den))
	return f(int(x.Num().Int64()), int(x.Denom().Int64()))
}

// atMost returns the greatest number of beasts that take up each and fit on stints, found by dividing exactly.
func atMost(stints *big.Rat, each api.Frac) int {
	n := floor(new(big.Rat).Quo(stints, rat(each)))
	if n.Sign() < 0 {
		return 0
	}
	if n.Cmp(big.NewInt(api.MaxBeasts)) > 0 {
		return api.MaxBeasts
	}
	return int(n.Int64())
}

// P1.5, and P1.1 (A8).
func TestMostAndExchangeAtRandom(t *testing.T) {
	r := random(23)
	for range 3000 {
		l, _ := herd(func() api.Frac { return randomEach(r) }, func() int { return 0 })
		stints := randomFrac(r)
		n, e := share.Most(l, "cow", stints, 0, 0)
		mustOK(t, "Most", e)
		if want := atMost(rat(stints), l[0].Stints); n != want {
			t.Errorf("Most of %v on %v: %d, want %d", l[0].Stints, stints, n, want)
		}
		takes := func(n int) *big.Rat { return new(big.Rat).Mul(big.NewRat(int64(n), 1), rat(l[0].Stints)) }
		if stints.Num >= 0 && takes(n).Cmp(rat(stints)) > 0 || n < api.MaxBeasts && takes(n+1).Cmp(rat(stints)) <= 0 {
			t.Errorf("Most of %v on %v: %d", l[0].Stints, stints, n)
		}
		count := r.IntN(pick(r, 5, 1000, api.MaxBeasts+1))
		there, e := share.Exchange(l, "cow", "ewe", count, 0, 0)
		mustOK(t, "Exchange", e)
		if want := atMost(takes(count), l[1].Stints); there != want {
			t.Errorf("Exchange of %d from %v to %v: %d, want %d", count, l[0].Stints, l[1].Stints, there, want)
		}
		if back, e := share.Exchange(l, "ewe", "cow", there, 0, 0); e != api.OK || back > count {
			t.Errorf("Exchange of %d from %v to %v and back: %d, error %d", count, l[0].Stints, l[1].Stints, back, e)
		}
	}
}

// P1.6, T1, and P1.1 (A8).
func TestFillAtRandom(t *testing.T) {
	r := random(24)
	filledUp := 0
	for range 2000 {
		each := func() api.Frac { return randomEach(r) }
		if r.IntN(3) > 0 {
			each = func() api.Frac { return pick(r, f(1, 4), f(3, 8), f(1, 1), f(7, 3), f(1, 10)) }
		}
		l, wants := herd(each, func() int { return r.IntN(pick(r, 5, 1000, api.MaxBeasts+1)) })
		stints := pick(r, randomFrac(r), f(r.IntN(2000), 1), f(1+7*r.IntN(300), 7))
		left, over := rat(stints), false
		var want []api.Head
		for i, h := range wants {
			n := min(h.Number, atMost(left, l[i].Stints))
			takes := new(big.Rat).Mul(big.NewRat(int64(n), 1), rat(l[i].Stints))
			left = new(big.Rat).Sub(left, takes)
			over = over || !inRange(takes) || !inRange(left)
			want = append(want, head(h.Sort, n))
		}
		got, e := share.Fill(l, wants, stints, 0, 0)
		if over && (len(got) > 0 || e != api.ErrLimit) || !over && (!slices.Equal(got, want) || e != api.OK) {
			t.Errorf("Fill(%v, %v, %v): %v, error %d; want %v", l, wants, stints, got, e, want)
		}
		if over || stints.Num < 0 {
			continue
		}
		filledUp++
		if left.Sign() < 0 {
			t.Errorf("Fill(%v, %v, %v): %v does not fit", l, wants, stints, got)
		}
		for i := range got {
			if got[i].Number < wants[i].Number && rat(l[i].Stints).Cmp(left) <= 0 {
				t.Errorf("Fill(%v, %v, %v): %v leaves room for one %s more", l, wants, stints, got, got[i].Sort)
			}
		}
	}
	if filledUp < 300 {
		t.Errorf("only %d cases were in range", filledUp)
	}
}
