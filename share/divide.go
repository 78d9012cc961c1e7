package share

import (
	"cmp"
	"slices"

	"couchant/api"
)

// Divide divides stints in proportion to parts.
func Divide(stints api.Frac, parts []int) ([]api.Frac, api.Errno) {
	sum, e := sumOf(parts, valid(stints) && stints.Num >= 0)
	if e != api.OK {
		return nil, e
	}
	shares := make([]api.Frac, len(parts))
	for i, part := range parts {
		shares[i], e = Norm(stints.Num*part, stints.Den*sum)
		if e != api.OK {
			return nil, e
		}
	}
	return shares, api.OK
}

// Whole divides whole stints in proportion to parts.
func Whole(total int, parts []int) ([]int, api.Errno) {
	sum, e := sumOf(parts, within(total, 0, api.MaxWhole))
	if e != api.OK {
		return nil, e
	}
	shares, order := make([]int, len(parts)), make([]int, len(parts))
	left := total
	for i, part := range parts {
		shares[i], order[i] = total*part/sum, i
		left -= shares[i]
	}
	cut := func(i int) int { return total * parts[i] % sum }
	slices.SortStableFunc(order, func(i, j int) int { return cmp.Compare(cut(j), cut(i)) })
	for _, i := range order[:left] {
		shares[i]++
	}
	return shares, api.OK
}

// sumOf returns the sum of parts, or why what is divided (divisible: whether it can be) cannot be divided so.
func sumOf(parts []int, divisible bool) (int, api.Errno) {
	if len(parts) > api.MaxShares {
		return 0, api.ErrLimit
	}
	sum := 0
	for _, part := range parts {
		divisible = divisible && within(part, 0, api.MaxPart)
		sum += part
	}
	if !divisible {
		return 0, api.ErrArg
	}
	if sum == 0 {
		return 0, api.ErrParts
	}
	return sum, api.OK
}
