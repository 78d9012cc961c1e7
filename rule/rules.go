package rule

import (
	"slices"

	"couchant/api"
	"couchant/share"
)

// checkPart returns what is wrong with an expression of rules that has to have a type.
func checkPart(e api.Expr, kind uint8) api.Errno {
	is, err := CheckExpr(e)
	switch {
	case err != api.OK:
		return err
	case is != kind:
		return api.ErrType
	}
	c := courseOf(e)
	// A low that is known is at least 0.
	if c.trend > api.TrendUp || kind == api.TypeNumber && !c.known {
		return api.ErrFalls
	}
	return api.OK
}

// checkFine returns what is wrong with a fine behind others.
func checkFine(before []api.Fine, x api.Fine) api.Errno {
	switch {
	case !isFree(x.Name):
		return api.ErrForm
	case slices.ContainsFunc(before, func(y api.Fine) bool { return y.Name == x.Name }):
		return api.ErrTwice
	}
	if e := checkPart(x.When, api.TypeTruth); e != api.OK {
		return e
	}
	return checkPart(x.Pays, api.TypeNumber)
}

// Check returns what is wrong with rules.
func Check(w api.Rules) api.Errno {
	if len(w.Fines) > api.MaxFines {
		return api.ErrLimit
	}
	for i, x := range w.Fines {
		if e := checkFine(w.Fines[:i], x); e != api.OK {
			return e
		}
	}
	if len(w.Seize) == 0 {
		return api.OK
	}
	return checkPart(w.Seize, api.TypeTruth)
}

// checkPlight returns what is wrong with rules or a plight.
func checkPlight(w api.Rules, p api.Plight) api.Errno {
	if e := Check(w); e != api.OK {
		return e
	}
	if !isPlight(p) {
		return api.ErrArg
	}
	return api.OK
}

// checkIndex returns what is wrong with rules or the index of a fine.
func checkIndex(w api.Rules, i int) api.Errno {
	if e := Check(w); e != api.OK {
		return e
	}
	if !within(i, 0, len(w.Fines)-1) {
		return api.ErrNone
	}
	return api.OK
}

// outcome is whether a fine is due in a plight, and its value.
type outcome struct {
	due   bool
	value api.Frac
}

// outcomeOf returns that of a fine of right rules in a valid plight.
func outcomeOf(x api.Fine, p api.Plight) (outcome, api.Errno) {
	_, due, e := valueOf(x.When, p)
	if e != api.OK {
		return outcome{}, e
	}
	pays, _, e := valueOf(x.Pays, p)
	switch {
	case e != api.OK:
		return outcome{}, e
	case !due:
		return outcome{false, whole(0)}, api.OK
	}
	return outcome{true, pays}, api.OK
}

// seizes tells whether beasts may be impounded by right rules in a valid plight.
func seizes(w api.Rules, p api.Plight) (bool, api.Errno) {
	if len(w.Seize) == 0 {
		return false, api.OK
	}
	_, is, e := valueOf(w.Seize, p)
	return is, e
}

// Fine returns the value of a fine in a plight.
func Fine(w api.Rules, i int, p api.Plight) (api.Frac, api.Errno) {
	if e := checkIndex(w, i); e != api.OK {
		return api.Frac{}, e
	}
	if !isPlight(p) {
		return api.Frac{}, api.ErrArg
	}
	x, e := outcomeOf(w.Fines[i], p)
	return x.value, e
}

// Total returns the sum of all fines in a plight.
func Total(w api.Rules, p api.Plight) (api.Frac, api.Errno) {
	if e := checkPlight(w, p); e != api.OK {
		return api.Frac{}, e
	}
	var values []api.Frac
	for _, x := range w.Fines {
		found, e := outcomeOf(x, p)
		if e != api.OK {
			return api.Frac{}, e
		}
		values = append(values, found.value)
	}
	return share.Sum(values)
}

// Seizes returns whether beasts may be impounded in a plight.
func Seizes(w api.Rules, p api.Plight) (bool, api.Errno) {
	if e := checkPlight(w, p); e != api.OK {
		return false, e
	}
	return seizes(w, p)
}

// isConstant tells whether an expression has the same value in all plights, because it looks at none.
func isConstant(e api.Expr) bool {
	return !slices.ContainsFunc(e, func(n api.Node) bool { return within(int(n.Op), int(api.OpHead), int(api.OpTick)) })
}

// isIdle tells whether constants show that a fine of right rules is always 0.
func isIdle(x api.Fine) bool {
	bare := api.Plight{Stints: whole(0)}
	if _, due, e := valueOf(x.When, bare); isConstant(x.When) && e == api.OK && !due {
		return true
	}
	pays, _, e := valueOf(x.Pays, bare)
	return isConstant(x.Pays) && e == api.OK && pays == whole(0)
}

// Idle returns the indices of the fines of which constants show that they are always 0.
func Idle(w api.Rules) ([]int, api.Errno) {
	if e := Check(w); e != api.OK {
		return nil, e
	}
	var idle []int
	for i, x := range w.Fines {
		if isIdle(x) {
			idle = append(idle, i)
		}
	}
	return idle, api.OK
}
