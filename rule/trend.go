package rule

import (
	"couchant/api"
	"couchant/share"
)

// together is the trend of what follows two others, turned that of the opposite of one.
var (
	together = [api.TrendAny + 1][api.TrendAny + 1]uint8{
		api.TrendStill: {0, api.TrendStill, api.TrendUp, api.TrendDown, api.TrendAny},
		api.TrendUp:    {0, api.TrendUp, api.TrendUp, api.TrendAny, api.TrendAny},
		api.TrendDown:  {0, api.TrendDown, api.TrendAny, api.TrendDown, api.TrendAny},
		api.TrendAny:   {0, api.TrendAny, api.TrendAny, api.TrendAny, api.TrendAny},
	}
	turned = [...]uint8{
		api.TrendStill: api.TrendStill, api.TrendUp: api.TrendDown, api.TrendDown: api.TrendUp, api.TrendAny: api.TrendAny,
	}
)

// course is the trend of an expression, and its low if that is known.
type course struct {
	trend uint8
	low   api.Frac
	known bool
}

// courseOf returns the course of a right expression.
func courseOf(e api.Expr) course {
	return fold(e, func(n api.Node, a, b course) course {
		low, known := lowOf(n, a, b)
		return course{trendOf(n, a, b), low, known}
	})
}

// trendOf returns the trend of a node with operands of some courses.
func trendOf(n api.Node, a, b course) uint8 {
	both := together[a.trend][b.trend]
	switch n.Op {
	case api.OpNumber, api.OpStints, api.OpTick:
		return api.TrendStill
	case api.OpHead, api.OpUse:
		return api.TrendUp
	case api.OpNot:
		return turned[a.trend]
	case api.OpSub:
		return together[a.trend][turned[b.trend]]
	case api.OpLess, api.OpAtMost:
		return together[b.trend][turned[a.trend]]
	case api.OpSame:
		if both != api.TrendStill {
			return api.TrendAny
		}
	case api.OpMul:
		// No low that is known is below 0: no literal is, and of differences none is known.
		if both != api.TrendStill && !(a.known && b.known) {
			return api.TrendAny
		}
	}
	return both
}

// lowOf returns the low of a node with operands of some courses, and whether it is known.
func lowOf(n api.Node, a, b course) (api.Frac, bool) {
	switch n.Op {
	case api.OpNumber:
		return n.Num, true
	case api.OpHead, api.OpUse, api.OpStints, api.OpTick:
		return whole(0), true
	case api.OpMax:
		if !a.known || b.known && share.Compare(a.low, b.low) < 0 {
			return b.low, b.known
		}
		return a.low, true
	}
	if !a.known || !b.known {
		return api.Frac{}, false
	}
	switch n.Op {
	case api.OpAdd:
		sum, e := share.Add(a.low, b.low)
		return sum, e == api.OK
	case api.OpMul:
		return whole(0), true
	case api.OpMin:
		if share.Compare(b.low, a.low) < 0 {
			return b.low, true
		}
		return a.low, true
	}
	return api.Frac{}, false
}

// Trend returns what the value of an expression does when there are more beasts.
func Trend(e api.Expr) (uint8, api.Errno) {
	if _, err := CheckExpr(e); err != api.OK {
		return 0, err
	}
	return courseOf(e).trend, api.OK
}

// Low returns the greatest number of which it is known that the value of an expression is at least that, and whether there is one.
func Low(e api.Expr) (api.Frac, bool, api.Errno) {
	if _, err := CheckExpr(e); err != api.OK {
		return api.Frac{}, false, err
	}
	c := courseOf(e)
	return c.low, c.known, api.OK
}
