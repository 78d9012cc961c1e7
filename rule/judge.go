package rule

import (
	"slices"

	"couchant/api"
	"couchant/share"
)

// areEnds tells whether two plights are the ends of what may be true.
func areEnds(low, high api.Plight) bool {
	if !isPlight(low) || !isPlight(high) || low.Tick != high.Tick || low.Stints != high.Stints {
		return false
	}
	return slices.EqualFunc(low.Herds, high.Herds, func(a, b api.Herd) bool {
		return a.Sort == b.Sort && a.Each == b.Each && a.Number <= b.Number
	})
}

// kindOf returns the kind of a verdict by what is true at both ends.
func kindOf(low, high bool) uint8 {
	switch {
	case low:
		return api.VerdictSure
	case !high:
		return api.VerdictNone
	}
	return api.VerdictOpen
}

// verdictOf returns the verdict on a fine of right rules between ends.
func verdictOf(x api.Fine, low, high api.Plight) (api.Verdict, api.Errno) {
	least, e := outcomeOf(x, low)
	if e != api.OK {
		return api.Verdict{}, e
	}
	greatest, e := outcomeOf(x, high)
	if e != api.OK {
		return api.Verdict{}, e
	}
	return api.Verdict{Kind: kindOf(least.due, greatest.due), Least: least.value, Greatest: greatest.value}, api.OK
}

// Judge returns what is known of a fine when everything between the ends may be true.
func Judge(w api.Rules, i int, low, high api.Plight) (api.Verdict, api.Errno) {
	if e := checkIndex(w, i); e != api.OK {
		return api.Verdict{}, e
	}
	if !areEnds(low, high) {
		return api.Verdict{}, api.ErrArg
	}
	return verdictOf(w.Fines[i], low, high)
}

// checkEnds returns what is wrong with rules or the ends of what may be true.
func checkEnds(w api.Rules, low, high api.Plight) api.Errno {
	if e := Check(w); e != api.OK {
		return e
	}
	if !areEnds(low, high) {
		return api.ErrArg
	}
	return api.OK
}

// JudgeAll returns what is known of all fines, in order.
func JudgeAll(w api.Rules, low, high api.Plight) ([]api.Verdict, api.Errno) {
	if e := checkEnds(w, low, high); e != api.OK {
		return nil, e
	}
	var verdicts []api.Verdict
	for _, x := range w.Fines {
		v, e := verdictOf(x, low, high)
		if e != api.OK {
			return nil, e
		}
		verdicts = append(verdicts, v)
	}
	return verdicts, api.OK
}

// MaySeize returns what is known of whether beasts may be impounded.
func MaySeize(w api.Rules, low, high api.Plight) (uint8, api.Errno) {
	if e := checkEnds(w, low, high); e != api.OK {
		return 0, e
	}
	least, e := seizes(w, low)
	if e != api.OK {
		return 0, e
	}
	greatest, e := seizes(w, high)
	if e != api.OK {
		return 0, e
	}
	return kindOf(least, greatest), api.OK
}

// with returns a plight with another number of beasts in the herd with an index.
func with(p api.Plight, at, number int) api.Plight {
	p.Herds = slices.Clone(p.Herds)
	p.Herds[at].Number = number
	return p
}

// Blames returns the sorts, ascending, without the beasts of which the value of a fine would be less.
func Blames(w api.Rules, i int, p api.Plight) ([]string, api.Errno) {
	value, e := Fine(w, i, p)
	if e != api.OK {
		return nil, e
	}
	var blamed []string
	for at, h := range p.Herds {
		without, e := outcomeOf(w.Fines[i], with(p, at, 0))
		if e != api.OK {
			return nil, e
		}
		if share.Compare(without.value, value) < 0 {
			blamed = append(blamed, h.Sort)
		}
	}
	slices.Sort(blamed)
	return blamed, api.OK
}

// Spare returns how many beasts of a sort more, at most so many, do not make the value of a fine greater.
func Spare(w api.Rules, i int, p api.Plight, sort string, most int) (int, api.Errno) {
	if e := checkIndex(w, i); e != api.OK {
		return 0, e
	}
	if !isPlight(p) || !within(most, 0, api.MaxSpare) {
		return 0, api.ErrArg
	}
	at := slices.IndexFunc(p.Herds, func(h api.Herd) bool { return h.Sort == sort })
	if at < 0 {
		return 0, api.ErrNone
	}
	now, e := outcomeOf(w.Fines[i], p)
	if e != api.OK {
		return 0, e
	}
	spare := 0
search:
	for spare < most {
		more := with(p, at, p.Herds[at].Number+spare+1)
		then, e := outcomeOf(w.Fines[i], more)
		switch {
		case !isPlight(more), e != api.OK, share.Compare(then.value, now.value) > 0:
			break search
		}
		spare++
	}
	return spare, api.OK
}
