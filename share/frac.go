package share

import "couchant/api"

// number is a valid fraction; package api, which is given, has no methods for it.
type number api.Frac

// whole returns the number n.
func whole(n int) number { return number{Num: n, Den: 1} }

// plus returns a sum; it panics if that is not in range.
func (a number) plus(b number) number {
	return lowest(a.Num*b.Den+b.Num*a.Den, a.Den*b.Den)
}

// minus returns a difference; it panics if that is not in range.
func (a number) minus(b number) number {
	return a.plus(number{Num: -b.Num, Den: b.Den})
}

// times returns a product; it panics if that is not in range.
func (a number) times(b number) number {
	// Whatever can be cancelled goes first: then a numerator that is too great stays so, and is seen before it overflows.
	down, up := divisor(a.Num, b.Den), divisor(b.Num, a.Den)
	x, y := a.Num/down, b.Num/up
	if y != 0 && distance(x) > api.MaxNum/distance(y) {
		panic(api.ErrLimit)
	}
	return lowest(x*y, (a.Den/up)*(b.Den/down))
}

// take adds b to a.
func (a *number) take(b number) { *a = a.plus(b) }

// lowest returns num / den in lowest terms; it panics if that is not in range.
func lowest(num, den int) number {
	by := divisor(num, den)
	if den < 0 {
		by = -by
	}
	x := api.Frac{Num: num / by, Den: den / by}
	if !valid(x) {
		panic(api.ErrLimit)
	}
	return number(x)
}

// divisor returns the greatest common divisor of two numbers that are not both 0.
func divisor(a, b int) int {
	for b != 0 {
		a, b = b, a%b
	}
	return distance(a)
}

// distance returns how far a number is from 0.
func distance(n int) int { return max(n, -n) }

// reckon returns the result of a calculation, which panics as soon as a number is not in range.
func reckon(work func() number) (x api.Frac, e api.Errno) {
	defer func() {
		if recover() != nil {
			x, e = api.Frac{}, api.ErrLimit
		}
	}()
	return api.Frac(work()), api.OK
}

// Norm returns the valid fraction with the value num / den.
func Norm(num, den int) (api.Frac, api.Errno) {
	if den == 0 || !within(num, -maxTerm, maxTerm) || !within(den, -maxTerm, maxTerm) {
		return api.Frac{}, api.ErrArg
	}
	return reckon(func() number { return lowest(num, den) })
}

// Add returns a sum.
func Add(a, b api.Frac) (api.Frac, api.Errno) { return combine(a, b, number(a).plus) }

// Sub returns a difference.
func Sub(a, b api.Frac) (api.Frac, api.Errno) { return combine(a, b, number(a).minus) }

// Mul returns a product.
func Mul(a, b api.Frac) (api.Frac, api.Errno) { return combine(a, b, number(a).times) }

// combine returns what an operation of a makes of b.
func combine(a, b api.Frac, operation func(number) number) (api.Frac, api.Errno) {
	if !valid(a) || !valid(b) {
		return api.Frac{}, api.ErrArg
	}
	return reckon(func() number { return operation(number(b)) })
}

// Sum returns the sum of a list, added up from the first one on.
func Sum(l []api.Frac) (api.Frac, api.Errno) {
	if len(l) > maxTerms {
		return api.Frac{}, api.ErrLimit
	}
	for _, x := range l {
		if !valid(x) {
			return api.Frac{}, api.ErrArg
		}
	}
	return reckon(func() number {
		sum := whole(0)
		add := sum.take
		for _, x := range l {
			add(number(x))
		}
		return sum
	})
}

// comparisons returns what holds of two valid fractions if Compare returns a sign.
func comparisons() map[int]func(a, b api.Frac) bool {
	return map[int]func(a, b api.Frac) bool{
		-1: func(a, b api.Frac) bool { return a.Num*b.Den < b.Num*a.Den },
		1:  func(a, b api.Frac) bool { return a.Num*b.Den > b.Num*a.Den },
	}
}

// Compare returns -1 if a is less than b, 1 if it is greater, otherwise 0.
func Compare(a, b api.Frac) int {
	if !valid(a) || !valid(b) {
		return 0
	}
	holds := comparisons()
	for _, sign := range []int{-1, 1} {
		if holds[sign](a, b) {
			return sign
		}
	}
	return 0
}

// Floor returns the greatest integer of at most a.
func Floor(a api.Frac) int {
	if !valid(a) {
		return 0
	}
	n := a.Num / a.Den
	if a.Num%a.Den < 0 {
		n--
	}
	return n
}

// Ceil returns the least integer of at least a.
func Ceil(a api.Frac) int {
	return -Floor(api.Frac{Num: -a.Num, Den: a.Den})
}
