package share_test

import (
	"math"
	"math/big"
	"math/rand/v2"
	"slices"
	"testing"

	"couchant/api"
	"couchant/share"
)

func f(num, den int) api.Frac { return api.Frac{Num: num, Den: den} }

func equal(id, known int, sort string, from, num, den int) api.Equal {
	return api.Equal{Id: id, Known: known, Sort: sort, From: from, Stints: f(num, den)}
}

func void(id, known, of int) api.Equal { return api.Equal{Id: id, Known: known, Of: of} }

// sample is the table of the chapter's examples.
func sample() []api.Equal {
	return []api.Equal{
		equal(1, 0, "cow", 0, 1, 1),
		equal(2, 0, "sheep", 0, 1, 4),
		equal(3, 0, "couple", 0, 3, 8),
		equal(4, 10, "sheep", 100, 1, 5),
		void(5, 20, 4),
	}
}

// faulty is a list of records that Check refuses, at the index 1, with ErrTwice.
func faulty() []api.Equal {
	return []api.Equal{equal(1, 0, "cow", 0, 1, 1), equal(1, 0, "cow", 5, 1, 2)}
}

// badFractions are fractions that are not valid.
func badFractions() []api.Frac {
	return []api.Frac{
		{}, f(1, 0), f(0, 2), f(2, 4), f(-2, 4), f(6, 3), f(1, -1), f(-1, -2), f(0, -1),
		f(1, api.MaxDen+1), f(api.MaxNum+1, 1), f(-api.MaxNum-1, 1),
		f(math.MinInt, 1), f(math.MaxInt, 1), f(1, math.MinInt), f(1, math.MaxInt), f(math.MinInt, math.MinInt), f(math.MinInt, -1),
	}
}

func random(seed uint64) *rand.Rand { return rand.New(rand.NewPCG(seed, 7)) }

// pick returns one of the items.
func pick[T any](r *rand.Rand, items ...T) T { return items[r.IntN(len(items))] }

// randomFrac returns a valid fraction, often a small one or one near the ends of the range.
func randomFrac(r *rand.Rand) api.Frac {
	num := pick(r, r.IntN(12), r.IntN(5000), api.MaxNum-r.IntN(50), r.IntN(api.MaxNum))
	den := pick(r, 1, 1+r.IntN(12), 1+r.IntN(5000), api.MaxDen-r.IntN(50))
	if r.IntN(2) == 0 {
		num = -num
	}
	x := big.NewRat(int64(num), int64(den))
	return f(int(x.Num().Int64()), int(x.Denom().Int64()))
}

func rat(a api.Frac) *big.Rat { return big.NewRat(int64(a.Num), int64(a.Den)) }

func inRange(x *big.Rat) bool {
	return x.Denom().Cmp(big.NewInt(api.MaxDen)) <= 0 && new(big.Int).Abs(x.Num()).Cmp(big.NewInt(api.MaxNum)) <= 0
}

// wanted returns what a function has to return whose result is x.
func wanted(x *big.Rat) (api.Frac, api.Errno) {
	if !inRange(x) {
		return api.Frac{}, api.ErrLimit
	}
	return f(int(x.Num().Int64()), int(x.Denom().Int64())), api.OK
}

// floor returns the greatest integer of at most x.
func floor(x *big.Rat) *big.Int {
	return new(big.Int).Div(x.Num(), x.Denom()) // Div rounds down for denominators above 0
}

// randomTable returns a table with few sorts and few days, so that its records meet.
func randomTable(r *rand.Rand, size int) []api.Equal {
	var l []api.Equal
	known := 0
	ids := r.Perm(3 * size)
	for len(l) < size {
		known += pick(r, 0, 0, 1, 3)
		x := equal(1+ids[len(l)], known, pick(r, "cow", "ewe", "ewe-1"), pick(r, 0, 1, 2, 3, 5, 99999, 100000), 1+r.IntN(3), 1)
		if r.IntN(3) == 0 && len(l) > 0 {
			x = void(x.Id, known, l[r.IntN(len(l))].Id)
		}
		if longer := append(slices.Clone(l), x); accepted(longer) {
			l = longer
		}
	}
	return l
}

func accepted(l []api.Equal) bool {
	_, e := share.Check(l)
	return e == api.OK
}

// forceOn says what is in force as the chapter's words do, one after the other.
func forceOn(l []api.Equal, sort string, day, known int) (api.Equal, bool) {
	var best api.Equal
	found := false
	for _, x := range l {
		if x.Of != 0 || x.Known > known || x.Sort != sort || x.From > day {
			continue
		}
		withdrawn := false
		for _, y := range l {
			withdrawn = withdrawn || y.Of == x.Id && y.Known <= known
		}
		if withdrawn {
			continue
		}
		if !found || x.From > best.From || x.From == best.From && x.Id > best.Id {
			best, found = x, true
		}
	}
	return best, found
}

func mustOK(t *testing.T, what string, e api.Errno) {
	t.Helper()
	if e != api.OK {
		t.Fatalf("%s: error %d", what, e)
	}
}
