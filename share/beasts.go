package share

import (
	"math/bits"

	"couchant/api"
)

// Uses returns the stints that heads take up.
func Uses(l []api.Equal, heads []api.Head, day, known int) (api.Frac, api.Errno) {
	return Excess(l, heads, api.Frac(whole(0)), day, known)
}

// Excess returns the stints that heads take up, less some stints.
func Excess(l []api.Equal, heads []api.Head, stints api.Frac, day, known int) (api.Frac, api.Errno) {
	each, e := eachOf(l, heads, stints, day, known)
	if e != api.OK {
		return api.Frac{}, e
	}
	return reckon(func() number {
		uses := whole(0)
		add := uses.take
		for i, head := range heads {
			add(each[i].times(whole(head.Number)))
		}
		return uses.minus(number(stints))
	})
}

// Fill returns for each of some heads, in their order, as many beasts as are wanted and fit.
func Fill(l []api.Equal, wants []api.Head, stints api.Frac, day, known int) ([]api.Head, api.Errno) {
	each, e := eachOf(l, wants, stints, day, known)
	if e != api.OK {
		return nil, e
	}
	var filled []api.Head
	_, e = reckon(func() number {
		left := number(stints)
		for i, want := range wants {
			n := min(want.Number, fitting(api.Frac(left), api.Frac(each[i])))
			filled = append(filled, api.Head{Sort: want.Sort, Number: n})
			left = left.minus(each[i].times(whole(n)))
		}
		return left
	})
	if e != api.OK {
		return nil, e
	}
	return filled, api.OK
}

// eachOf returns how many stints a beast of each head takes up, or why heads and stints are refused.
func eachOf(l []api.Equal, heads []api.Head, stints api.Frac, day, known int) ([]number, api.Errno) {
	if _, e := Check(l); e != api.OK {
		return nil, e
	}
	if !areHeads(heads) || !valid(stints) {
		return nil, api.ErrArg
	}
	var each []number
	for _, head := range heads {
		x, found := inForce(l, head.Sort, day, known)
		if !found {
			return nil, api.ErrSort
		}
		each = append(each, number(x.Stints))
	}
	return each, api.OK
}

// areHeads tells whether heads are as they have to be.
func areHeads(heads []api.Head) bool {
	if len(heads) > api.MaxSorts {
		return false
	}
	seen := map[string]bool{}
	for _, head := range heads {
		if !isName(head.Sort) || !within(head.Number, 0, api.MaxBeasts) || seen[head.Sort] {
			return false
		}
		seen[head.Sort] = true
	}
	return true
}

// Most returns how many beasts of a sort take up at most some stints.
func Most(l []api.Equal, sort string, stints api.Frac, day, known int) (int, api.Errno) {
	if _, e := Check(l); e != api.OK {
		return 0, e
	}
	if !valid(stints) {
		return 0, api.ErrArg
	}
	x, found := inForce(l, sort, day, known)
	if !found {
		return 0, api.ErrSort
	}
	return fitting(stints, x.Stints), api.OK
}

// Exchange returns how many beasts of one sort take up at most what n of another one do.
func Exchange(l []api.Equal, from, to string, n, day, known int) (int, api.Errno) {
	if _, e := Check(l); e != api.OK {
		return 0, e
	}
	if !within(n, 0, api.MaxBeasts) {
		return 0, api.ErrArg
	}
	x, given := inForce(l, from, day, known)
	y, taken := inForce(l, to, day, known)
	if !given || !taken {
		return 0, api.ErrSort
	}
	return ratio(n*x.Stints.Num, y.Stints.Den, x.Stints.Den*y.Stints.Num), api.OK
}

// fitting returns how many beasts that take up each stints fit on some, at most MaxBeasts.
func fitting(stints, each api.Frac) int {
	if stints.Num < 0 {
		return 0
	}
	return ratio(stints.Num, each.Den, stints.Den*each.Num)
}

// ratio returns a * b / c, rounded down, but at most MaxBeasts; a and b are at least 0, c is greater.
func ratio(a, b, c int) int {
	// The product needs 67 bits at most, but the quotient 60: no beast takes up more than MaxStints or less than 1/MaxDen.
	high, low := bits.Mul64(uint64(a), uint64(b))
	n, _ := bits.Div64(high, low, uint64(c))
	return int(min(n, api.MaxBeasts))
}
