package mark

import (
	"slices"

	"couchant/api"
)

// nobody is the owner that an assignment has for a beast of which it makes no use.
const nobody = 0

// wants is how many beasts each owner claims.
type wants [api.MaxOwner + 1]int

// hearing is found beasts, and the claims to them.
type hearing struct {
	fits   []set // for each beast the owners of claims whom it fits
	claims set   // the owners of claims
	wants  wants
}

// hear returns the hearing of valid claims to valid found beasts.
func hear(b api.Smits, day int, found []api.Sight, claims []api.Claim) hearing {
	var h hearing
	for _, c := range claims {
		h.claims |= just(c.Owner)
		h.wants[c.Owner] = c.Number
	}
	v := viewOf(b, day)
	for _, s := range found {
		h.fits = append(h.fits, v.owners(s)&h.claims)
	}
	return h
}

// checkHearing returns why nothing can be told of claims.
func checkHearing(b api.Smits, day int, found []api.Sight, claims []api.Claim) api.Errno {
	return firstError(CheckSmits(b), valid(isDay(day)), checkFound(found), checkClaims(claims))
}

// gain lets an owner have one beast more in an assignment, which it changes so that all others have as many as before; if it cannot, nothing changes.
func (h hearing) gain(has []int, owner int) bool {
	var asked set
	var seek func(owner int) bool
	seek = func(owner int) bool {
		asked |= just(owner)
		for beast, fits := range h.fits {
			holder := has[beast]
			if fits.has(owner) && (holder == nobody || !asked.has(holder) && seek(holder)) {
				has[beast] = owner
				return true
			}
		}
		return false
	}
	return seek(owner)
}

// meet returns some assignment that meets the claims, if there is one.
func (h hearing) meet() ([]int, bool) {
	has := make([]int, len(h.fits))
	for owner := range h.claims.each() {
		for range h.wants[owner] {
			if !h.gain(has, owner) {
				return nil, false
			}
		}
	}
	return has, true
}

// first returns the first assignment that meets the claims, if there is one.
func (h hearing) first() ([]int, bool) {
	has, ok := h.meet()
	if !ok {
		return nil, false
	}
	h.fits = slices.Clone(h.fits)
beasts:
	for beast, fits := range h.fits {
		// If the claims can be met without the beast, it is nobody's. Otherwise each assignment gives it to somebody: to the first owner who can be the only one whom it fits.
		h.fits[beast] = 0
		if others, ok := h.meet(); ok {
			has = others
			continue
		}
		for owner := range fits.each() {
			h.fits[beast] = just(owner)
			if others, ok := h.meet(); ok {
				has = others
				continue beasts
			}
		}
	}
	return has, true
}

// certain tells whether a beast has an owner in all assignments that meet the claims, if it has this owner in one.
func (h hearing) certain(beast, owner int) bool {
	h.fits = slices.Clone(h.fits)
	h.fits[beast] &^= just(owner)
	_, ok := h.meet()
	return !ok
}

// short tells whether some owners claim more beasts together than fit at least one of them.
func (h hearing) short(some set) bool {
	lack := 0
	for owner := range some.each() {
		lack += h.wants[owner]
	}
	for _, fits := range h.fits {
		if fits&some != 0 {
			lack--
		}
	}
	return lack > 0
}

// Assign returns the first assignment that meets claims, if there is one.
func Assign(b api.Smits, day int, found []api.Sight, claims []api.Claim) ([]int, bool, api.Errno) {
	if e := checkHearing(b, day, found, claims); e != api.OK {
		return nil, false, e
	}
	has, ok := hear(b, day, found, claims).first()
	return has, ok, api.OK
}

// Shortage returns the first shortage of claims, if there is one.
func Shortage(b api.Smits, day int, found []api.Sight, claims []api.Claim) ([]int, bool, api.Errno) {
	if e := checkHearing(b, day, found, claims); e != api.OK {
		return nil, false, e
	}
	h := hear(b, day, found, claims)
	var first []int
	for some := range h.claims.parts() {
		if !h.short(some) {
			continue
		}
		if owners := some.list(); first == nil || compareLists(owners, first) < 0 {
			first = owners
		}
	}
	return first, first != nil, api.OK
}

// CheckShortage tells whether a list is a shortage of claims.
func CheckShortage(b api.Smits, day int, found []api.Sight, claims []api.Claim, owners []int) (bool, api.Errno) {
	if e := checkHearing(b, day, found, claims); e != api.OK {
		return false, e
	}
	h := hear(b, day, found, claims)
	var some set
	for i, owner := range owners {
		if !h.claims.has(owner) || i > 0 && owner <= owners[i-1] {
			return false, api.OK
		}
		some |= just(owner)
	}
	return h.short(some), api.OK
}

// Certain returns for each found beast the owner that it has in all assignments that meet claims, 0 if there is none.
func Certain(b api.Smits, day int, found []api.Sight, claims []api.Claim) ([]int, api.Errno) {
	if e := checkHearing(b, day, found, claims); e != api.OK {
		return nil, e
	}
	h := hear(b, day, found, claims)
	has, ok := h.meet()
	if !ok {
		return nil, api.ErrClaim
	}
	owners := make([]int, len(has))
	for beast, owner := range has {
		if owner != nobody && h.certain(beast, owner) {
			owners[beast] = owner
		}
	}
	return owners, api.OK
}

// Most returns the greatest number that an owner can claim so that all claims can be met.
func Most(b api.Smits, day int, found []api.Sight, claims []api.Claim, owner int) (int, api.Errno) {
	if e := firstError(CheckSmits(b), valid(isDay(day)), valid(isOwner(owner)), checkFound(found), checkClaims(claims)); e != api.OK {
		return 0, e
	}
	others := slices.DeleteFunc(slices.Clone(claims), func(c api.Claim) bool { return c.Owner == owner })
	if len(others) == api.MaxClaims {
		return 0, api.ErrLimit
	}
	h := hear(b, day, found, append(others, api.Claim{Owner: owner}))
	has, ok := h.meet()
	if !ok {
		return 0, api.ErrClaim
	}
	most := 0
	for h.gain(has, owner) {
		most++
	}
	return most, api.OK
}

// Meets tells whether a list is an assignment that meets claims.
func Meets(b api.Smits, day int, found []api.Sight, claims []api.Claim, owners []int) (bool, api.Errno) {
	if e := checkHearing(b, day, found, claims); e != api.OK {
		return false, e
	}
	h := hear(b, day, found, claims)
	if len(owners) != len(found) {
		return false, api.OK
	}
	for beast, owner := range owners {
		if owner == nobody {
			continue
		}
		if !h.fits[beast].has(owner) {
			return false, api.OK
		}
		h.wants[owner]--
	}
	return h.wants == wants{}, api.OK
}
