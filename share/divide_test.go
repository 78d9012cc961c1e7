package share_test

import (
	"math"
	"math/big"
	"slices"
	"testing"

	"couchant/api"
	"couchant/share"
)

// badParts are parts that nothing can be divided by, and the error of each.
func badParts() map[string]struct {
	parts []int
	e     api.Errno
} {
	return map[string]struct {
		parts []int
		e     api.Errno
	}{
		"nobody":                   {nil, api.ErrParts},
		"nothing":                  {[]int{0}, api.ErrParts},
		"40 times nothing":         {make([]int, 40), api.ErrParts},
		"41 times nothing":         {make([]int, 41), api.ErrLimit},
		"41 bad parts":             {slices.Repeat([]int{-1}, 41), api.ErrLimit},
		"-1":                       {[]int{1, -1}, api.ErrArg},
		"1001":                     {[]int{1001, 1}, api.ErrArg},
		"a sum of 0":               {[]int{5, -5}, api.ErrArg},
		"the greatest numbers":     {[]int{math.MaxInt, math.MaxInt, 2}, api.ErrArg},
		"the least, and 0":         {[]int{math.MinInt, math.MinInt}, api.ErrArg},
		"a bad one behind nothing": {[]int{0, 0, 1001}, api.ErrArg},
	}
}

// A9.
func TestDivide(t *testing.T) {
	for _, x := range []struct {
		name   string
		stints api.Frac
		parts  []int
		want   []api.Frac
		e      api.Errno
	}{
		{"the example", f(5, 2), []int{1, 2, 2}, []api.Frac{f(1, 2), f(1, 1), f(1, 1)}, api.OK},
		{"one", f(5, 2), []int{1000}, []api.Frac{f(5, 2)}, api.OK},
		{"one of none", f(7, 1), []int{0, 3, 0}, []api.Frac{f(0, 1), f(7, 1), f(0, 1)}, api.OK},
		{"nothing", f(0, 1), []int{1, 2}, []api.Frac{f(0, 1), f(0, 1)}, api.OK},
		{"much", f(api.MaxNum, 1), []int{1000, 1000}, []api.Frac{f(api.MaxNum/2, 1), f(api.MaxNum/2, 1)}, api.OK},
		{"40 heirs", f(1, 1), slices.Repeat([]int{1000}, 40), slices.Repeat([]api.Frac{f(1, 40)}, 40), api.OK},
		{"too fine", f(1, api.MaxDen), []int{1, 1}, nil, api.ErrLimit},
		{"too fine for the last one alone", f(2, 999999), []int{0, 1, 1, 2}, nil, api.ErrLimit},
		{"too great a numerator", f(api.MaxNum, 1), []int{999, 998}, nil, api.ErrLimit},
		{"less than nothing", f(-1, 2), []int{1}, nil, api.ErrArg},
		{"less than nothing, for none", f(-1, 2), []int{0}, nil, api.ErrArg},
		{"less than nothing, for too many", f(-1, 2), make([]int, 41), nil, api.ErrLimit},
		{"no fraction, for too many", api.Frac{}, make([]int, 41), nil, api.ErrLimit},
	} {
		if got, e := share.Divide(x.stints, x.parts); !slices.Equal(got, x.want) || e != x.e {
			t.Errorf("Divide %s: %v, error %d", x.name, got, e)
		}
	}
	for name, x := range badParts() {
		if got, e := share.Divide(f(1, 1), x.parts); len(got) > 0 || e != x.e {
			t.Errorf("Divide by %s: %v, error %d", name, got, e)
		}
	}
	for _, bad := range badFractions() {
		for _, parts := range [][]int{nil, {1, 2}} {
			if got, e := share.Divide(bad, parts); len(got) > 0 || e != api.ErrArg {
				t.Errorf("Divide of %v: %v, error %d", bad, got, e)
			}
		}
	}
}

// A9.
func TestWhole(t *testing.T) {
	for _, x := range []struct {
		name  string
		total int
		parts []int
		want  []int
		e     api.Errno
	}{
		{"the example", 10, []int{1, 1, 1}, []int{4, 3, 3}, api.OK},
		{"two left", 11, []int{1, 1, 1}, []int{4, 4, 3}, api.OK},
		{"most cut off", 7, []int{0, 1, 5}, []int{0, 1, 6}, api.OK},
		{"most cut off, at the end", 1, []int{1, 2}, []int{0, 1}, api.OK},
		{"most cut off, between", 4, []int{3, 4, 1}, []int{2, 2, 0}, api.OK},
		{"equal ones behind a greater one", 5, []int{2, 3, 2, 3}, []int{1, 2, 1, 1}, api.OK},
		{"nothing", 0, []int{1, 2}, []int{0, 0}, api.OK},
		{"one", api.MaxWhole, []int{7}, []int{api.MaxWhole}, api.OK},
		{"40 heirs", api.MaxWhole, slices.Repeat([]int{1000}, 40), slices.Repeat([]int{api.MaxWhole / 40}, 40), api.OK},
		{"-1", -1, []int{1}, nil, api.ErrArg},
		{"-1, for none", -1, []int{0}, nil, api.ErrArg},
		{"-1, for too many", -1, make([]int, 41), nil, api.ErrLimit},
		{"too much", api.MaxWhole + 1, []int{1}, nil, api.ErrArg},
		{"the least number", math.MinInt, []int{1}, nil, api.ErrArg},
		{"the greatest number", math.MaxInt, []int{1000, 1}, nil, api.ErrArg},
	} {
		if got, e := share.Whole(x.total, x.parts); !slices.Equal(got, x.want) || e != x.e {
			t.Errorf("Whole of %s: %v, error %d", x.name, got, e)
		}
	}
	for name, x := range badParts() {
		if got, e := share.Whole(1, x.parts); len(got) > 0 || e != x.e {
			t.Errorf("Whole by %s: %v, error %d", name, got, e)
		}
	}
}

// P1.3 and T1.
func TestDivideAtRandom(t *testing.T) {
	r := random(31)
	divided := 0
	for range 1500 {
		stints := randomFrac(r)
		if stints.Num < 0 {
			stints.Num = -stints.Num
		}
		var parts []int
		sum := 0
		for range 1 + r.IntN(6) {
			parts = append(parts, r.IntN(pick(r, 4, 30, api.MaxPart+1)))
			sum += parts[len(parts)-1]
		}
		if sum == 0 {
			continue
		}
		var want []api.Frac
		g := api.OK
		for _, part := range parts {
			x, e := wanted(new(big.Rat).Mul(rat(stints), big.NewRat(int64(part), int64(sum))))
			want = append(want, x)
			if e != api.OK {
				g = e
			}
		}
		got, e := share.Divide(stints, parts)
		if e != g || e == api.OK && !slices.Equal(got, want) || e != api.OK && len(got) > 0 {
			t.Errorf("Divide(%v, %v): %v, error %d; want %v, %d", stints, parts, got, e, want, g)
		}
		if e != api.OK {
			continue
		}
		divided++
		if all, e := share.Sum(got); e != api.ErrLimit && all != stints {
			t.Errorf("Divide(%v, %v): the sum is %v", stints, parts, all)
		}
	}
	if divided < 200 {
		t.Errorf("only %d cases were in range", divided)
	}
}

// P1.3 and T1: the shares are those that take what is left one by one, each for the one of whom most was cut off.
func TestWholeAtRandom(t *testing.T) {
	r := random(32)
	for range 1500 {
		total := r.IntN(pick(r, 5, 100, api.MaxWhole+1))
		var parts []int
		sum := 0
		for range 1 + r.IntN(pick(r, 4, 40)) {
			parts = append(parts, r.IntN(pick(r, 2, 4, api.MaxPart+1)))
			sum += parts[len(parts)-1]
		}
		if sum == 0 {
			continue
		}
		want := make([]int, len(parts))
		cut := make([]int, len(parts))
		left := total
		for i, part := range parts {
			want[i] = total * part / sum
			cut[i] = total*part - want[i]*sum
			left -= want[i]
		}
		for range left {
			i := slices.Index(cut, slices.Max(cut))
			want[i]++
			cut[i] = -1
		}
		got, e := share.Whole(total, parts)
		if !slices.Equal(got, want) || e != api.OK {
			t.Errorf("Whole(%d, %v): %v, error %d; want %v", total, parts, got, e, want)
			continue
		}
		all := 0
		for i, n := range got {
			all += n
			if off := n*sum - total*parts[i]; off <= -sum || off >= sum {
				t.Errorf("Whole(%d, %v): %v is off by one or more at %d", total, parts, got, i)
			}
		}
		if all != total {
			t.Errorf("Whole(%d, %v): the sum of %v is %d", total, parts, got, all)
		}
	}
}
