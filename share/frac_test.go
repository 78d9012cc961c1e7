package share_test

import (
	"math"
	"math/big"
	"slices"
	"testing"

	"couchant/api"
	"couchant/share"
)

// A1.
func TestNorm(t *testing.T) {
	const most = 1000000000000000
	for _, x := range []struct {
		num, den int
		want     api.Frac
		e        api.Errno
	}{
		{6, -8, f(-3, 4), api.OK},
		{-6, -8, f(3, 4), api.OK},
		{-6, 8, f(-3, 4), api.OK},
		{0, 5, f(0, 1), api.OK},
		{0, -5, f(0, 1), api.OK},
		{0, most, f(0, 1), api.OK},
		{7, 1, f(7, 1), api.OK},
		{most, most, f(1, 1), api.OK},
		{-most, most, f(-1, 1), api.OK},
		{most, -most, f(-1, 1), api.OK},
		{most, 1000, f(api.MaxNum, 1), api.OK},
		{-most, 1000, f(-api.MaxNum, 1), api.OK},
		{api.MaxNum, 1, f(api.MaxNum, 1), api.OK},
		{1, api.MaxDen, f(1, api.MaxDen), api.OK},
		{2, 2 * api.MaxDen, f(1, api.MaxDen), api.OK},
		{1, 0, api.Frac{}, api.ErrArg},
		{0, 0, api.Frac{}, api.ErrArg},
		{most + 1, 1, api.Frac{}, api.ErrArg},
		{-most - 1, 1, api.Frac{}, api.ErrArg},
		{1, most + 1, api.Frac{}, api.ErrArg},
		{1, -most - 1, api.Frac{}, api.ErrArg},
		{math.MinInt, math.MinInt, api.Frac{}, api.ErrArg},
		{math.MaxInt, math.MaxInt, api.Frac{}, api.ErrArg},
		{math.MinInt, 1, api.Frac{}, api.ErrArg},
		{1, math.MinInt, api.Frac{}, api.ErrArg},
		{api.MaxNum + 1, 1, api.Frac{}, api.ErrLimit},
		{-api.MaxNum - 1, 1, api.Frac{}, api.ErrLimit},
		{most, 1, api.Frac{}, api.ErrLimit},
		{1, api.MaxDen + 1, api.Frac{}, api.ErrLimit},
		{1, -api.MaxDen - 1, api.Frac{}, api.ErrLimit},
		{1, most, api.Frac{}, api.ErrLimit},
	} {
		if got, e := share.Norm(x.num, x.den); got != x.want || e != x.e {
			t.Errorf("Norm(%d, %d): %v, error %d", x.num, x.den, got, e)
		}
	}
}

func TestNormAtRandom(t *testing.T) {
	r := random(1)
	for range 2000 {
		num, den := r.IntN(1<<pick(r, 4, 20, 49))-r.IntN(1<<20), 1+r.IntN(1<<pick(r, 4, 20, 45))
		want, g := wanted(big.NewRat(int64(num), int64(den)))
		if got, e := share.Norm(num, den); got != want || e != g {
			t.Errorf("Norm(%d, %d): %v, error %d; want %v, %d", num, den, got, e, want, g)
		}
		if got, e := share.Norm(-num, -den); got != want || e != g {
			t.Errorf("Norm(%d, %d): %v, error %d; want %v, %d", -num, -den, got, e, want, g)
		}
	}
}

// operations are the functions of A2 with two fractions, and what they have to return.
func operations() map[string]struct {
	is   func(a, b api.Frac) (api.Frac, api.Errno)
	want func(x, a, b *big.Rat) *big.Rat
} {
	return map[string]struct {
		is   func(a, b api.Frac) (api.Frac, api.Errno)
		want func(x, a, b *big.Rat) *big.Rat
	}{
		"Add": {share.Add, (*big.Rat).Add},
		"Sub": {share.Sub, (*big.Rat).Sub},
		"Mul": {share.Mul, (*big.Rat).Mul},
	}
}

// A2.
func TestOperations(t *testing.T) {
	for _, x := range []struct {
		name string
		a, b api.Frac
		want api.Frac
		e    api.Errno
	}{
		{"Add", f(1, 2), f(1, 3), f(5, 6), api.OK},
		{"Mul", f(2, 3), f(3, 4), f(1, 2), api.OK},
		{"Sub", f(1, 4), f(1, 2), f(-1, 4), api.OK},
		{"Sub", f(1, 4), f(1, 4), f(0, 1), api.OK},
		{"Mul", f(0, 1), f(-3, 7), f(0, 1), api.OK},
		{"Mul", f(-3, 7), f(0, 1), f(0, 1), api.OK},
		{"Mul", f(0, 1), f(0, 1), f(0, 1), api.OK},
		{"Mul", f(api.MaxNum, 1), f(1, api.MaxDen), f(1000000, 1), api.OK},
		{"Mul", f(api.MaxNum, 1), f(-1, 1), f(-api.MaxNum, 1), api.OK},
		{"Mul", f(api.MaxNum/4, 1), f(4, 1), f(api.MaxNum, 1), api.OK},
		{"Mul", f(api.MaxNum, 1), f(2, 1), api.Frac{}, api.ErrLimit},
		{"Mul", f(-api.MaxNum, 1), f(2, 1), api.Frac{}, api.ErrLimit},
		{"Mul", f(api.MaxNum, 1), f(api.MaxNum, 1), api.Frac{}, api.ErrLimit},
		{"Mul", f(-api.MaxNum, 1), f(-api.MaxNum, 1), api.Frac{}, api.ErrLimit},
		{"Mul", f(1<<32, 1), f(1<<32, 1), api.Frac{}, api.ErrLimit}, // 2^64 wraps to 0
		{"Mul", f(1, api.MaxDen), f(1, 2), api.Frac{}, api.ErrLimit},
		{"Add", f(api.MaxNum, 1), f(1, 1), api.Frac{}, api.ErrLimit},
		{"Add", f(api.MaxNum-1, 1), f(1, 1), f(api.MaxNum, 1), api.OK},
		{"Sub", f(-api.MaxNum, 1), f(1, 1), api.Frac{}, api.ErrLimit},
		{"Sub", f(1-api.MaxNum, 1), f(1, 1), f(-api.MaxNum, 1), api.OK},
		{"Add", f(1, api.MaxDen), f(1, api.MaxDen-1), api.Frac{}, api.ErrLimit},
		{"Add", f(999999999999, api.MaxDen), f(1, api.MaxDen), f(1000000, 1), api.OK},
	} {
		if got, e := operations()[x.name].is(x.a, x.b); got != x.want || e != x.e {
			t.Errorf("%s(%v, %v): %v, error %d", x.name, x.a, x.b, got, e)
		}
	}
}

func TestOperationsAtRandom(t *testing.T) {
	r := random(2)
	for range 3000 {
		a, b := randomFrac(r), randomFrac(r)
		for name, o := range operations() {
			want, g := wanted(o.want(new(big.Rat), rat(a), rat(b)))
			if got, e := o.is(a, b); got != want || e != g {
				t.Errorf("%s(%v, %v): %v, error %d; want %v, %d", name, a, b, got, e, want, g)
			}
		}
	}
}

func TestOperationsOfBadFractions(t *testing.T) {
	for _, bad := range badFractions() {
		for name, o := range operations() {
			for _, good := range []api.Frac{f(1, 2), f(api.MaxNum, 1)} {
				if got, e := o.is(bad, good); got != (api.Frac{}) || e != api.ErrArg {
					t.Errorf("%s(%v, %v): %v, error %d", name, bad, good, got, e)
				}
				if got, e := o.is(good, bad); got != (api.Frac{}) || e != api.ErrArg {
					t.Errorf("%s(%v, %v): %v, error %d", name, good, bad, got, e)
				}
			}
		}
	}
}

// A2.
func TestSum(t *testing.T) {
	many := func(n int, x api.Frac) []api.Frac { return slices.Repeat([]api.Frac{x}, n) }
	for _, x := range []struct {
		name string
		l    []api.Frac
		want api.Frac
		e    api.Errno
	}{
		{"nil", nil, f(0, 1), api.OK},
		{"empty", []api.Frac{}, f(0, 1), api.OK},
		{"one", []api.Frac{f(-2, 3)}, f(-2, 3), api.OK},
		{"three", []api.Frac{f(1, 2), f(1, 3), f(1, 6)}, f(1, 1), api.OK},
		{"1000", many(1000, f(1, 1000)), f(1, 1), api.OK},
		{"1001", many(1001, f(0, 1)), api.Frac{}, api.ErrLimit},
		{"1001 bad ones", many(1001, f(2, 4)), api.Frac{}, api.ErrLimit},
		{"a bad one", []api.Frac{f(1, 2), f(2, 4)}, api.Frac{}, api.ErrArg},
		{"a bad one behind the limit", []api.Frac{f(api.MaxNum, 1), f(1, 1), {}}, api.Frac{}, api.ErrArg},
		{"over on the way", []api.Frac{f(api.MaxNum, 1), f(1, 1), f(-1, 1)}, api.Frac{}, api.ErrLimit},
		{"never over", []api.Frac{f(api.MaxNum, 1), f(-1, 1), f(1, 1)}, f(api.MaxNum, 1), api.OK},
		{"too fine on the way", []api.Frac{f(1, 1000), f(1, 1001), f(-1, 1001)}, api.Frac{}, api.ErrLimit},
		{"never too fine", []api.Frac{f(1, 1001), f(-1, 1001), f(1, 1000)}, f(1, 1000), api.OK},
	} {
		if got, e := share.Sum(x.l); got != x.want || e != x.e {
			t.Errorf("Sum of %s: %v, error %d", x.name, got, e)
		}
	}
}

func TestSumAtRandom(t *testing.T) {
	r := random(3)
	for range 300 {
		var l []api.Frac
		sum, over := new(big.Rat), false
		for range r.IntN(9) {
			x := randomFrac(r)
			if r.IntN(3) > 0 {
				x = f(r.IntN(9)-4, 1)
			}
			l = append(l, x)
			sum.Add(sum, rat(x))
			over = over || !inRange(sum)
		}
		want, g := wanted(sum)
		if over {
			want, g = api.Frac{}, api.ErrLimit
		}
		if got, e := share.Sum(l); got != want || e != g {
			t.Errorf("Sum(%v): %v, error %d; want %v, %d", l, got, e, want, g)
		}
	}
}

// A3.
func TestCompareAndRound(t *testing.T) {
	for _, x := range []struct {
		a, b api.Frac
		want int
	}{
		{f(1, 3), f(1, 3), 0}, {f(1, 3), f(1, 2), -1}, {f(1, 2), f(1, 3), 1}, {f(-1, 2), f(-1, 3), -1}, {f(-1, 2), f(1, 3), -1},
		{f(api.MaxNum, api.MaxDen-1), f(-api.MaxNum, api.MaxDen-1), 1},
		{f(999999999989, 999983), f(999999999989, 999979), -1},
	} {
		if got := share.Compare(x.a, x.b); got != x.want {
			t.Errorf("Compare(%v, %v): %d", x.a, x.b, got)
		}
	}
	for _, x := range []struct {
		a         api.Frac
		low, high int
	}{
		{f(-7, 2), -4, -3}, {f(7, 2), 3, 4}, {f(6, 1), 6, 6}, {f(-6, 1), -6, -6}, {f(0, 1), 0, 0}, {f(1, 1000000), 0, 1}, {f(-1, 1000000), -1, 0},
		{f(api.MaxNum, 1), api.MaxNum, api.MaxNum}, {f(-api.MaxNum, 1), -api.MaxNum, -api.MaxNum},
	} {
		if low, high := share.Floor(x.a), share.Ceil(x.a); low != x.low || high != x.high {
			t.Errorf("Floor and Ceil of %v: %d, %d", x.a, low, high)
		}
	}
	for _, bad := range badFractions() {
		for _, good := range []api.Frac{f(1, 3), f(-7, 2)} {
			if share.Compare(bad, good) != 0 || share.Compare(good, bad) != 0 {
				t.Errorf("Compare of %v and %v is not 0", bad, good)
			}
		}
		if share.Floor(bad) != 0 || share.Ceil(bad) != 0 {
			t.Errorf("Floor and Ceil of %v: %d, %d", bad, share.Floor(bad), share.Ceil(bad))
		}
	}
}

func TestCompareAndRoundAtRandom(t *testing.T) {
	r := random(4)
	for range 3000 {
		a, b := randomFrac(r), randomFrac(r)
		if got, want := share.Compare(a, b), rat(a).Cmp(rat(b)); got != want {
			t.Errorf("Compare(%v, %v): %d, want %d", a, b, got, want)
		}
		if got, want := share.Floor(a), floor(rat(a)); int64(got) != want.Int64() {
			t.Errorf("Floor(%v): %d, want %v", a, got, want)
		}
		if got, want := share.Ceil(a), floor(new(big.Rat).Neg(rat(a))); int64(got) != -want.Int64() {
			t.Errorf("Ceil(%v): %d, want -%v", a, got, want)
		}
	}
}

// P1.2.
func TestLawsOfFractions(t *testing.T) {
	r := random(5)
	held := map[string]int{}
	for range 4000 {
		a, b, c := randomFrac(r), randomFrac(r), randomFrac(r)
		for name, o := range operations() {
			x, e := o.is(a, b)
			y, g := o.is(b, a)
			if name != "Sub" && (x != y || e != g) {
				t.Errorf("%s of %v and %v depends on their order", name, a, b)
			}
		}
		sum, e := share.Add(a, b)
		if e == api.OK {
			held["sum"]++
			if back, g := share.Sub(sum, b); back != a || g != api.OK {
				t.Errorf("Sub does not undo Add of %v and %v: %v, error %d", a, b, back, g)
			}
		}
		left, e1 := share.Mul(sum, c)
		x, e2 := share.Mul(a, c)
		y, e3 := share.Mul(b, c)
		right, e4 := share.Add(x, y)
		if e == api.OK && e1 == api.OK && e2 == api.OK && e3 == api.OK && e4 == api.OK {
			held["product"]++
			if left != right {
				t.Errorf("(%v + %v) * %v: %v, but added up %v", a, b, c, left, right)
			}
		}
		x, e2 = share.Add(a, c)
		y, e3 = share.Add(b, c)
		if e2 == api.OK && e3 == api.OK {
			held["order"]++
			if share.Compare(x, y) != share.Compare(a, b) {
				t.Errorf("Add of %v does not keep the order of %v and %v", c, a, b)
			}
		}
		if share.Compare(a, b) != -share.Compare(b, a) || share.Compare(a, b) <= 0 && share.Compare(b, c) <= 0 && share.Compare(a, c) > 0 {
			t.Errorf("Compare of %v, %v, %v is no order", a, b, c)
		}
		if n := share.Floor(a); share.Compare(f(n, 1), a) > 0 || n < api.MaxNum && share.Compare(a, f(n+1, 1)) >= 0 {
			t.Errorf("Floor(%v): %d", a, n)
		}
	}
	for _, law := range []string{"sum", "product", "order"} {
		if held[law] < 100 {
			t.Errorf("only %d cases of %s were in range", held[law], law)
		}
	}
}
