package mark

import (
	"iter"
	"math/bits"

	"couchant/api"
)

// looks says for each place and sign as which signs this may be seen: bit v stands for the sign v.
type looks [api.MarkPlaces][api.MaxSign + 1]uint8

func looksOf(fades []api.Fade) looks {
	var l looks
	for place := range l {
		for sign := range l[place] {
			l[place][sign] = 1 << sign
		}
		if isEar(place) {
			continue
		}
		for _, f := range fades {
			l[place][f.Sign] |= 1 << f.Seen
		}
	}
	return l
}

// fits tells whether beasts with some signs may be seen as a sight.
func (l looks) fits(have signs, s api.Sight) bool {
	for place, sign := range have {
		seen := s.Signs[place]
		if seen != api.Worn && l[place][sign]>>seen&1 == 0 {
			return false
		}
	}
	return true
}

// both returns, as bits, the signs as which two signs may both be seen at a place.
func (l looks) both(place int, g, h uint8) uint8 { return l[place][g] & l[place][h] }

// apart returns the number of places at which no sign could be seen on beasts with either signs.
func (l looks) apart(a, c signs) int {
	n := 0
	for place := range l {
		if l.both(place, a[place], c[place]) == 0 {
			n++
		}
	}
	return n
}

// alike returns the first clear sight that fits beasts with either signs, if there is one.
func (l looks) alike(a, c signs) (api.Sight, bool) {
	if l.apart(a, c) > 0 {
		return api.Sight{}, false
	}
	var s api.Sight
	for place := range l {
		s.Signs[place] = uint8(bits.TrailingZeros8(l.both(place, a[place], c[place])))
	}
	return s, true
}

// view is what is to be known of a day to tell whose a beast can be.
type view struct {
	marks []api.Mark // those in force, by ascending owners
	looks looks
}

func viewOf(b api.Smits, day int) view { return view{inForce(b, day), looksOf(b.Fades)} }

// owners returns those whom a sight fits.
func (v view) owners(s api.Sight) set {
	var owners set
	for _, m := range v.marks {
		if v.looks.fits(m.Signs, s) {
			owners |= just(m.Owner)
		}
	}
	return owners
}

// ownersOf returns the owners whom a sight fits on a day.
func ownersOf(b api.Smits, day int, s api.Sight) (set, api.Errno) {
	if e := firstError(CheckSmits(b), valid(isDay(day)), valid(isSight(s))); e != api.OK {
		return 0, e
	}
	return viewOf(b, day).owners(s), api.OK
}

// Fits tells whether a sight fits an owner on a day.
func Fits(b api.Smits, day int, s api.Sight, owner int) (bool, api.Errno) {
	if e := firstError(CheckSmits(b), valid(isDay(day)), valid(isOwner(owner)), valid(isSight(s))); e != api.OK {
		return false, e
	}
	return viewOf(b, day).owners(s).has(owner), api.OK
}

// Owners returns the owners whom a sight fits on a day, ascending.
func Owners(b api.Smits, day int, s api.Sight) ([]int, api.Errno) {
	owners, e := ownersOf(b, day, s)
	return owners.list(), e
}

// Sure returns the only owner whom a sight fits on a day, if it fits just one.
func Sure(b api.Smits, day int, s api.Sight) (int, bool, api.Errno) {
	owners, e := ownersOf(b, day, s)
	if owners.size() != 1 {
		return 0, false, e
	}
	return owners.list()[0], true, api.OK
}

// Alike returns the first clear sight that fits both of two owners on a day, if there is one.
func Alike(b api.Smits, day, owner, other int) (api.Sight, bool, api.Errno) {
	if e := firstError(CheckSmits(b), valid(isDay(day)), valid(isOwner(owner)), valid(isOwner(other))); e != api.OK {
		return api.Sight{}, false, e
	}
	v := viewOf(b, day)
	one, hasOne := markOf(v.marks, owner)
	two, hasTwo := markOf(v.marks, other)
	if !hasOne || !hasTwo {
		return api.Sight{}, false, api.ErrNone
	}
	s, ok := v.looks.alike(one.Signs, two.Signs)
	return s, ok, api.OK
}

// Mistaken returns the pairs of owners whose marks in force on a day can be mistaken for one another, in ascending order.
func Mistaken(b api.Smits, day int) ([]api.Pair, api.Errno) {
	if e := firstError(CheckSmits(b), valid(isDay(day))); e != api.OK {
		return nil, e
	}
	v := viewOf(b, day)
	var pairs []api.Pair
	for i, one := range v.marks {
		for _, two := range v.marks[i+1:] {
			if v.looks.apart(one.Signs, two.Signs) == 0 {
				pairs = append(pairs, api.Pair{A: one.Owner, B: two.Owner})
			}
		}
	}
	return pairs, api.OK
}

// Apart returns the number of places at which no sign could be seen on beasts with the signs of a and on beasts with those of c.
func Apart(b api.Smits, a, c api.Sight) (int, api.Errno) {
	if e := firstError(CheckSmits(b), valid(isClear(a.Signs)), valid(isClear(c.Signs))); e != api.OK {
		return 0, e
	}
	return looksOf(b.Fades).apart(a.Signs, c.Signs), api.OK
}

// digits returns the last digits of a number, each of them a sign, and what is left of the number before them.
func digits(n int) (signs, int) {
	var s signs
	for i := range s {
		s[len(s)-1-i] = uint8(n % (api.MaxSign + 1))
		n /= api.MaxSign + 1
	}
	return s, n
}

// allSigns yields all lists of signs, in their order.
func allSigns() iter.Seq[signs] {
	return func(yield func(signs) bool) {
		for n := 0; ; n++ {
			s, left := digits(n)
			if left > 0 || !yield(s) {
				return
			}
		}
	}
}

// Free returns the first signs that can be mistaken for no mark in force on a day.
func Free(b api.Smits, day int) (api.Sight, api.Errno) {
	if e := firstError(CheckSmits(b), valid(isDay(day))); e != api.OK {
		return api.Sight{}, e
	}
	v := viewOf(b, day)
lists:
	for s := range allSigns() {
		for _, m := range v.marks {
			if v.looks.apart(s, m.Signs) == 0 {
				continue lists
			}
		}
		return api.Sight{Signs: s}, api.OK
	}
	return api.Sight{}, api.ErrNone
}
