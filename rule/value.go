package rule

import (
	"couchant/api"
	"couchant/share"
)

// value is what a node comes to: a number (api.Frac) or a truth (bool).
type value any

// asked is a node the value of which is asked in a plight; first and second are the values of its operands if they are numbers, one and other if they are truths.
type asked struct {
	node          api.Node
	plight        api.Plight
	first, second api.Frac
	one, other    bool
}

// inRange returns a result of layer 1; it gives up if there is none.
func inRange(x api.Frac, e api.Errno) api.Frac {
	need(e == api.OK, e)
	return x
}

func (x asked) literal() value { return x.node.Num }

func (x asked) head() value {
	for _, h := range x.plight.Herds {
		if h.Sort == x.node.Name {
			return whole(h.Number)
		}
	}
	return whole(0)
}

func (x asked) use() value {
	sum := whole(0)
	for _, h := range x.plight.Herds {
		taken := inRange(share.Mul(whole(h.Number), h.Each))
		sum = inRange(share.Add(sum, taken))
	}
	return sum
}

func (x asked) stints() value { return x.plight.Stints }

func (x asked) tick() value { return whole(x.plight.Tick) }

func (x asked) sum() value { return inRange(share.Add(x.first, x.second)) }

func (x asked) difference() value { return inRange(share.Sub(x.first, x.second)) }

func (x asked) product() value { return inRange(share.Mul(x.first, x.second)) }

func (x asked) lesser() value {
	if share.Compare(x.second, x.first) < 0 {
		return x.second
	}
	return x.first
}

func (x asked) greater() value {
	if share.Compare(x.second, x.first) > 0 {
		return x.second
	}
	return x.first
}

func (x asked) isLess() value { return share.Compare(x.first, x.second) < 0 }

func (x asked) isAtMost() value { return share.Compare(x.first, x.second) <= 0 }

func (x asked) isSame() value { return x.first == x.second }

func (x asked) both() value { return x.one && x.other }

func (x asked) either() value { return x.one || x.other }

func (x asked) opposite() value { return !x.one }

// split returns a value as a number and as a truth; what it is not is zero.
func split(v value) (number api.Frac, truth bool) {
	switch v := v.(type) {
	case api.Frac:
		return v, false
	case bool:
		return api.Frac{}, v
	}
	return api.Frac{}, false
}

// valueOf returns the value of a right expression in a valid plight, as a number and as a truth.
func valueOf(e api.Expr, p api.Plight) (number api.Frac, truth bool, err api.Errno) {
	ops := operators()
	err = attempt(func() {
		number, truth = split(fold(e, func(n api.Node, a, b value) value {
			x := asked{node: n, plight: p}
			x.first, x.one = split(a)
			x.second, x.other = split(b)
			return ops[n.Op].value(x)
		}))
	})
	return number, truth, err
}

// isPlight tells whether a plight is valid.
func isPlight(p api.Plight) bool {
	if !within(p.Tick, 0, api.MaxTicks) || !isShare(p.Stints) || len(p.Herds) > api.MaxSorts {
		return false
	}
	sorts := map[string]bool{}
	for _, h := range p.Herds {
		if !isName(h.Sort) || sorts[h.Sort] || !within(h.Number, 0, api.MaxBeasts) || !isEach(h.Each) {
			return false
		}
		sorts[h.Sort] = true
	}
	return true
}

// isShare tells whether a fraction is valid, and at least 0.
func isShare(x api.Frac) bool { return isValid(x) && x.Num >= 0 }

// isEach tells whether a beast can take up so many stints.
func isEach(x api.Frac) bool {
	return isValid(x) && x.Num > 0 && share.Compare(x, whole(api.MaxStints)) <= 0
}

// ask returns the value of an expression that has to have a type, as a number and as a truth.
func ask(e api.Expr, p api.Plight, kind uint8) (api.Frac, bool, api.Errno) {
	is, err := CheckExpr(e)
	switch {
	case err != api.OK:
		return api.Frac{}, false, err
	case is != kind:
		return api.Frac{}, false, api.ErrType
	case !isPlight(p):
		return api.Frac{}, false, api.ErrArg
	}
	return valueOf(e, p)
}

// Value returns the value of a number in a plight.
func Value(e api.Expr, p api.Plight) (api.Frac, api.Errno) {
	x, _, err := ask(e, p, api.TypeNumber)
	return x, err
}

// Holds returns the value of a truth in a plight.
func Holds(e api.Expr, p api.Plight) (bool, api.Errno) {
	_, is, err := ask(e, p, api.TypeTruth)
	return is, err
}
