package rule_test

import (
	"math/big"
	"slices"
	"strconv"

	"couchant/api"
)

// The chapter's words a second time, on trees and with fractions without bounds.

func rat(x api.Frac) *big.Rat { return big.NewRat(int64(x.Num), int64(x.Den)) }

func frac(x *big.Rat) api.Frac { return f(int(x.Num().Int64()), int(x.Denom().Int64())) }

func inRange(x *big.Rat) bool {
	return x.Denom().Cmp(big.NewInt(api.MaxDen)) <= 0 && new(big.Int).Abs(x.Num()).Cmp(big.NewInt(api.MaxNum)) <= 0
}

// found is a value, as a number or a truth, or that it is not in range.
type found struct {
	number *big.Rat
	truth  bool
	ok     bool
}

func foundNumber(x *big.Rat) found { return found{number: x, ok: inRange(x)} }

func foundTruth(is bool) found { return found{truth: is, ok: true} }

// usedIn is what the herds of a plight take up.
func usedIn(p api.Plight) found {
	sum := new(big.Rat)
	for _, h := range p.Herds {
		taken := new(big.Rat).Mul(big.NewRat(int64(h.Number), 1), rat(h.Each))
		sum = new(big.Rat).Add(sum, taken)
		if !inRange(taken) || !inRange(sum) {
			return found{}
		}
	}
	return foundNumber(sum)
}

// in returns the value of a tree in a plight.
func (x tree) in(p api.Plight) found {
	var l []found
	for _, y := range x.parts {
		v := y.in(p)
		if !v.ok {
			return found{}
		}
		l = append(l, v)
	}
	switch x.op {
	case api.OpNumber:
		return foundNumber(rat(x.num))
	case api.OpHead:
		n := 0
		for _, h := range p.Herds {
			if h.Sort == x.name {
				n = h.Number
			}
		}
		return foundNumber(big.NewRat(int64(n), 1))
	case api.OpUse:
		return usedIn(p)
	case api.OpStints:
		return foundNumber(rat(p.Stints))
	case api.OpTick:
		return foundNumber(big.NewRat(int64(p.Tick), 1))
	case api.OpAnd:
		return foundTruth(l[0].truth && l[1].truth)
	case api.OpOr:
		return foundTruth(l[0].truth || l[1].truth)
	case api.OpNot:
		return foundTruth(!l[0].truth)
	}
	return x.ofNumbers(l[0].number, l[1].number)
}

// ofNumbers returns the value of a tree of two numbers.
func (x tree) ofNumbers(a, b *big.Rat) found {
	less, greater := a.Cmp(b) < 0, a.Cmp(b) > 0
	switch x.op {
	case api.OpAdd:
		return foundNumber(new(big.Rat).Add(a, b))
	case api.OpSub:
		return foundNumber(new(big.Rat).Sub(a, b))
	case api.OpMul:
		return foundNumber(new(big.Rat).Mul(a, b))
	case api.OpMin:
		if less {
			return foundNumber(a)
		}
		return foundNumber(b)
	case api.OpMax:
		if greater {
			return foundNumber(a)
		}
		return foundNumber(b)
	case api.OpSame:
		return foundTruth(!less && !greater)
	case api.OpLess:
		return foundTruth(less && !x.turned || greater && x.turned)
	}
	return foundTruth(!greater && !x.turned || !less && x.turned)
}

// trend is what more beasts do: up and down tell whether a value may become greater, and less.
type trend struct{ up, down bool }

func (x trend) turned() trend { return trend{x.down, x.up} }

func (x trend) with(y trend) trend { return trend{x.up || y.up, x.down || y.down} }

// code returns the number of a trend.
func (x trend) code() uint8 {
	switch {
	case x.up && x.down:
		return api.TrendAny
	case x.up:
		return api.TrendUp
	case x.down:
		return api.TrendDown
	}
	return api.TrendStill
}

// trend returns that of a tree.
func (x tree) trend() trend {
	var l []trend
	for _, y := range x.parts {
		l = append(l, y.trend())
	}
	if x.turned {
		slices.Reverse(l)
	}
	moves := slices.ContainsFunc(l, func(y trend) bool { return y != trend{} })
	switch x.op {
	case api.OpNumber, api.OpStints, api.OpTick:
		return trend{}
	case api.OpHead, api.OpUse:
		return trend{up: true}
	case api.OpNot:
		return l[0].turned()
	case api.OpSub:
		return l[0].with(l[1].turned())
	case api.OpLess, api.OpAtMost:
		return l[1].with(l[0].turned())
	case api.OpSame:
		return trend{moves, moves}
	case api.OpMul:
		a, b := x.parts[0].low(), x.parts[1].low()
		if a == nil || b == nil || a.Sign() < 0 || b.Sign() < 0 {
			return trend{moves, moves}
		}
	}
	return l[0].with(l[1])
}

// low returns that of a tree, nil if it is not known.
func (x tree) low() *big.Rat {
	var l []*big.Rat
	for _, y := range x.parts {
		if low := y.low(); low != nil {
			l = append(l, low)
		}
	}
	slices.SortFunc(l, (*big.Rat).Cmp)
	switch x.op {
	case api.OpNumber:
		return rat(x.num)
	case api.OpHead, api.OpUse, api.OpStints, api.OpTick:
		return new(big.Rat)
	case api.OpMax:
		if len(l) > 0 {
			return l[len(l)-1]
		}
		return nil
	}
	if len(l) < 2 {
		return nil
	}
	switch x.op {
	case api.OpAdd:
		if sum := new(big.Rat).Add(l[0], l[1]); inRange(sum) {
			return sum
		}
	case api.OpMul:
		if l[0].Sign() >= 0 {
			return new(big.Rat)
		}
	case api.OpMin:
		return l[0]
	}
	return nil
}

// The signs of operators that are written between two parts, from those that bind weakest on; not binds as strongly as 3, what has no signs as 7.
func sign(x tree) (string, int) {
	switch x.op {
	case api.OpOr:
		return "or", 1
	case api.OpAnd:
		return "and", 2
	case api.OpNot:
		return "not", 3
	case api.OpLess:
		if x.turned {
			return ">", 4
		}
		return "<", 4
	case api.OpAtMost:
		if x.turned {
			return ">=", 4
		}
		return "<=", 4
	case api.OpSame:
		return "=", 4
	case api.OpAdd:
		return "+", 5
	case api.OpSub:
		return "-", 5
	case api.OpMul:
		return "*", 6
	case api.OpMin:
		return "min", 7
	case api.OpMax:
		return "max", 7
	case api.OpUse:
		return "use", 7
	case api.OpStints:
		return "stints", 7
	case api.OpTick:
		return "tick", 7
	case api.OpHead:
		return x.name, 7
	}
	if x.num.Den == 1 {
		return strconv.Itoa(x.num.Num), 7
	}
	return strconv.Itoa(x.num.Num) + "/" + strconv.Itoa(x.num.Den), 7
}

// source returns how a tree is printed; inside says whether as a part of another one.
func (x tree) source(inside bool) string {
	s, binds := sign(x)
	switch {
	case len(x.parts) == 0:
		return s
	case binds == 7:
		return s + "(" + x.parts[0].source(true) + ", " + x.parts[1].source(true) + ")"
	case len(x.parts) == 1:
		s += " " + x.parts[0].source(true)
	default:
		s = x.parts[0].source(true) + " " + s + " " + x.parts[1].source(true)
	}
	if inside {
		return "(" + s + ")"
	}
	return s
}

// isNamed tells whether a string can be the name of a sort.
func isNamed(s string) bool {
	if len(s) < 1 || len(s) > 24 || s[0] < 'a' || s[0] > 'z' {
		return false
	}
	for _, b := range []byte(s) {
		if (b < 'a' || b > 'z') && (b < '0' || b > '9') && b != '-' {
			return false
		}
	}
	return !slices.Contains([]string{"fine", "seize", "when", "pays", "use", "stints", "tick", "min", "max", "and", "or", "not"}, s)
}

// isLiteral tells whether a fraction can be a Num.
func isLiteral(x api.Frac) bool {
	return x.Den >= 1 && x.Den <= 1000000 && x.Num >= 0 && x.Num <= 999999999 && divisor(x.Num, x.Den) == 1
}

// checked returns what CheckExpr has to return: the row is one of pairs of an index and a type.
func checked(e api.Expr) (uint8, api.Errno) {
	if len(e) > 200 {
		return 0, api.ErrLimit
	}
	if len(e) == 0 {
		return 0, api.ErrForm
	}
	var row [][2]int
	for i, n := range e {
		kind := 1
		if n.Op >= 11 {
			kind = 2
		}
		takes := 1
		if n.Op >= 14 {
			takes = 2
		}
		bare := n
		bare.Op, bare.A, bare.B = 0, 0, 0
		size := len(row)
		var a, b int
		switch {
		case n.Op < 1, n.Op > 16:
			return 0, api.ErrArg
		case n.Op <= 5:
			if n.Op == 1 && isLiteral(n.Num) {
				bare.Num = api.Frac{}
			} else if n.Op == 1 {
				return 0, api.ErrArg
			}
			if n.Op == 2 && isNamed(n.Name) {
				bare.Name = ""
			} else if n.Op == 2 {
				return 0, api.ErrArg
			}
			if bare != (api.Node{}) || n.A != 0 || n.B != 0 {
				return 0, api.ErrArg
			}
			row = append(row, [2]int{i, kind})
			continue
		case n.Op == 16:
			if bare != (api.Node{}) || n.B != 0 || size < 1 || n.A != row[size-1][0] {
				return 0, api.ErrArg
			}
			a, b = row[size-1][1], row[size-1][1]
			row = row[:size-1]
		default:
			if bare != (api.Node{}) || size < 2 {
				return 0, api.ErrArg
			}
			one, two := row[size-2][0], row[size-1][0]
			straight := n.A == one && n.B == two
			other := n.A == two && n.B == one && (n.Op == 11 || n.Op == 12)
			if !straight && !other {
				return 0, api.ErrArg
			}
			a, b = row[size-2][1], row[size-1][1]
			row = row[:size-2]
		}
		if a != takes || b != takes {
			return 0, api.ErrType
		}
		row = append(row, [2]int{i, kind})
	}
	if len(row) != 1 {
		return 0, api.ErrArg
	}
	return uint8(row[0][1]), api.OK
}
