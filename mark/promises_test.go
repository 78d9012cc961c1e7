package mark_test

import (
	"slices"
	"testing"

	"couchant/api"
	"couchant/mark"
)

// dispute is found beasts and claims to them.
type dispute struct {
	b      api.Smits
	day    int
	found  []api.Sight
	claims []api.Claim
}

// disputes calls a function for random disputes: small ones and great ones.
func disputes(t *testing.T, seed uint64, times int, check func(d dispute)) {
	t.Helper()
	r := random(seed)
	for range times {
		b, day := randomSmits(r), r.IntN(lastDay)
		found := randomFound(r, b, day, pick(r, 3, 8, 60))
		check(dispute{b, day, found, randomClaims(r, b, day, found, len(owners()))})
		if t.Failed() {
			return
		}
	}
}

// canMeet tells whether some claims to the beasts of a dispute can all be met.
func canMeet(d dispute, claims []api.Claim) bool {
	_, ok, e := mark.Assign(d.b, d.day, d.found, claims)
	return ok && e == api.OK
}

// P3.2 and T3 (claims).
func TestOneOfTheTwo(t *testing.T) {
	met, short := 0, 0
	disputes(t, 61, 2000, func(d dispute) {
		owners, ok, e := mark.Assign(d.b, d.day, d.found, d.claims)
		mustOK(t, "Assign", e)
		lacking, lacks, e := mark.Shortage(d.b, d.day, d.found, d.claims)
		mustOK(t, "Shortage", e)
		if ok == lacks {
			t.Errorf("%+v: assignment %v, shortage %v", d, owners, lacking)
		}
		if ok {
			met++
			if meets, e := mark.Meets(d.b, d.day, d.found, d.claims, owners); !meets || e != api.OK {
				t.Errorf("%+v: Meets refuses %v, error %d", d, owners, e)
			}
		} else {
			short++
			if is, e := mark.CheckShortage(d.b, d.day, d.found, d.claims, lacking); !is || e != api.OK {
				t.Errorf("%+v: CheckShortage refuses %v, error %d", d, lacking, e)
			}
		}
		for _, l := range ownerLists(d.claims) {
			if is, _ := mark.CheckShortage(d.b, d.day, d.found, d.claims, l); is && ok {
				t.Errorf("%+v: CheckShortage accepts %v, and Meets %v", d, l, owners)
			}
		}
	})
	if met < 300 || short < 300 {
		t.Errorf("%d claims were met, %d not", met, short)
	}
}

// subset tells whether all of some owners are among others.
func subset(some, others []int) bool {
	return !slices.ContainsFunc(some, func(owner int) bool { return !slices.Contains(others, owner) })
}

// P3.3 and T3 (wear).
func TestMoreWear(t *testing.T) {
	r := random(62)
	wider := 0
	for range 3000 {
		b, day := randomSmits(r), r.IntN(lastDay)
		s := randomSight(r, b, day)
		before, e := mark.Owners(b, day, s)
		mustOK(t, "Owners", e)
		s.Signs[r.IntN(api.MarkPlaces)] = api.Worn
		after, e := mark.Owners(b, day, s)
		mustOK(t, "Owners", e)
		if !subset(before, after) {
			t.Fatalf("%v on the day %d: %v, with more wear (%v) %v", b, day, before, s, after)
		}
		if len(after) > len(before) {
			wider++
		}
	}
	if wider < 300 {
		t.Errorf("more wear mattered only %d times", wider)
	}
}

// P3.4 and T3 (marks).
func TestMoreMarks(t *testing.T) {
	r := random(63)
	wider, more := 0, 0
	for range 3000 {
		b, day := randomSmits(r), r.IntN(lastDay)
		s := randomSight(r, b, day)
		longer := api.Smits{Marks: slices.Clone(b.Marks), Fades: slices.Clone(b.Fades)}
		if r.IntN(2) == 0 {
			longer.Marks = append(longer.Marks, randomMark(r))
		} else {
			longer.Fades = append(longer.Fades, randomFade(r))
		}
		if mark.CheckSmits(longer) != api.OK {
			continue
		}
		before, e := mark.Owners(b, day, s)
		mustOK(t, "Owners", e)
		after, e := mark.Owners(longer, day, s)
		mustOK(t, "Owners", e)
		pairs, e := mark.Mistaken(b, day)
		mustOK(t, "Mistaken", e)
		morePairs, e := mark.Mistaken(longer, day)
		mustOK(t, "Mistaken", e)
		if !subset(before, after) || slices.ContainsFunc(pairs, func(p api.Pair) bool { return !slices.Contains(morePairs, p) }) {
			t.Fatalf("%v on the day %d: %v and %v, with %v: %v and %v", b, day, before, pairs, longer, after, morePairs)
		}
		if len(after) > len(before) {
			wider++
		}
		if len(morePairs) > len(pairs) {
			more++
		}
	}
	if wider < 50 || more < 50 {
		t.Errorf("more marks mattered only %d and %d times", wider, more)
	}
}

// P3.5.
func TestFreeIsNotMistaken(t *testing.T) {
	r := random(64)
	for range 400 {
		b, day := randomSmits(r), r.IntN(lastDay)
		s, e := mark.Free(b, day)
		mustOK(t, "Free", e)
		longer := api.Smits{Marks: append(slices.Clone(b.Marks), api.Mark{Owner: 39, From: day, Until: day, Signs: s.Signs}), Fades: b.Fades}
		mustOK(t, "CheckSmits", mark.CheckSmits(longer))
		pairs, e := mark.Mistaken(longer, day)
		mustOK(t, "Mistaken", e)
		if slices.ContainsFunc(pairs, func(p api.Pair) bool { return p.A == 39 || p.B == 39 }) {
			t.Fatalf("%v on the day %d: %v can be mistaken: %v", b, day, s, pairs)
		}
	}
}

// differs tells whether the claims of a dispute can be met so that a beast is not an owner's: without the beast, or with it for one of another claim's.
func differs(d dispute, beast, owner int) bool {
	rest := d
	rest.found = slices.Delete(slices.Clone(d.found), beast, beast+1)
	if canMeet(rest, d.claims) { // the beast is nobody's
		return owner != 0
	}
	for i, c := range d.claims {
		if c.Owner == owner || c.Number == 0 || !slices.Contains(fitting(d.b, d.day, d.found[beast]), c.Owner) {
			continue
		}
		fewer := slices.Clone(d.claims)
		fewer[i].Number--
		if canMeet(rest, fewer) { // the beast is that of the claim's owner
			return true
		}
	}
	return false
}

// P3.6, by other claims to the other beasts.
func TestCertainIsWhatStays(t *testing.T) {
	settled, open := 0, 0
	disputes(t, 65, 600, func(d dispute) {
		owners, ok, e := mark.Assign(d.b, d.day, d.found, d.claims)
		mustOK(t, "Assign", e)
		certain, e := mark.Certain(d.b, d.day, d.found, d.claims)
		if !ok {
			if e != api.ErrClaim || len(certain) > 0 {
				t.Errorf("%+v: Certain %v, error %d", d, certain, e)
			}
			return
		}
		mustOK(t, "Certain", e)
		for beast, owner := range owners {
			stays := owner != 0 && !differs(d, beast, owner)
			if stays && certain[beast] != owner || !stays && certain[beast] != 0 {
				t.Errorf("%+v: the beast %d is certainly %d's, in %v", d, beast, certain[beast], owners)
			}
			if stays {
				settled++
			} else {
				open++
			}
		}
	})
	if settled < 300 || open < 300 {
		t.Errorf("of %d beasts the owner was certain, of %d not", settled, open)
	}
}

// P3.7.
func TestRangeAndMost(t *testing.T) {
	asked := 0
	disputes(t, 66, 600, func(d dispute) {
		for _, owner := range owners() {
			sure, perhaps, e := mark.Range(d.b, d.day, d.found, owner)
			mustOK(t, "Range", e)
			at := slices.IndexFunc(d.claims, func(c api.Claim) bool { return c.Owner == owner })
			if at >= 0 && canMeet(d, d.claims) && d.claims[at].Number > sure+perhaps {
				t.Errorf("%+v: %d beasts of %d, of which %d and %d fit", d, d.claims[at].Number, owner, sure, perhaps)
			}
			most, e := mark.Most(d.b, d.day, d.found, d.claims, owner)
			if e == api.ErrClaim {
				continue
			}
			mustOK(t, "Most", e)
			asked++
			others := slices.DeleteFunc(slices.Clone(d.claims), func(c api.Claim) bool { return c.Owner == owner })
			with := func(n int) []api.Claim { return append(slices.Clone(others), api.Claim{Owner: owner, Number: n}) }
			if most > sure+perhaps || !canMeet(d, with(most)) || canMeet(d, with(most+1)) {
				t.Errorf("%+v: Most of %d is %d, and %d and %d fit", d, owner, most, sure, perhaps)
			}
		}
	})
	if asked < 1000 {
		t.Errorf("only %d times there was a greatest number", asked)
	}
}

// P3.8.
func TestGroupsAddUp(t *testing.T) {
	disputes(t, 67, 600, func(d dispute) {
		groups, e := mark.Groups(d.b, d.day, d.found)
		mustOK(t, "Groups", e)
		sum, alone := 0, map[int]int{}
		for i, g := range groups {
			sum += g.Number
			if len(g.Owners) == 1 {
				alone[g.Owners[0]] = g.Number
			}
			n := 0
			for _, s := range d.found {
				if slices.Equal(fitting(d.b, d.day, s), g.Owners) {
					n++
				}
			}
			if n != g.Number || n == 0 || i > 0 && byLength(groups[i-1].Owners, g.Owners) >= 0 {
				t.Errorf("%+v: Groups %v", d, groups)
			}
		}
		if sum != len(d.found) {
			t.Errorf("%+v: Groups %v add up to %d", d, groups, sum)
		}
		for owner := 1; owner <= api.MaxOwner; owner++ {
			if sure, _, e := mark.Range(d.b, d.day, d.found, owner); sure != alone[owner] || e != api.OK {
				t.Errorf("%+v: Groups %v, but %d are surely %d's, error %d", d, groups, sure, owner, e)
			}
		}
	})
}

// The greatest dispute: each of 60 beasts fits each of ten owners.
func TestGreatDisputes(t *testing.T) {
	b := api.Smits{Fades: allFades()}
	for owner := range 10 {
		b.Marks = append(b.Marks, api.Mark{Owner: owner + 1, Until: 9, Signs: [6]uint8{0, 0, uint8(owner % 5), uint8(owner / 5)}})
	}
	found := slices.Repeat([]api.Sight{{}}, 60)
	owners, ok, e := mark.Assign(b, 0, found, tenClaims(6))
	if !ok || e != api.OK || !slices.IsSorted(owners) || number(owners, 1) != 6 || number(owners, 10) != 6 {
		t.Errorf("Assign: %v, %v, error %d", owners, ok, e)
	}
	if certain, e := mark.Certain(b, 0, found, tenClaims(6)); e != api.OK || slices.Max(certain) != 0 {
		t.Errorf("Certain: %v, error %d", certain, e)
	}
	if most, e := mark.Most(b, 0, found, tenClaims(6), 7); most != 6 || e != api.OK {
		t.Errorf("Most: %d, error %d", most, e)
	}
	if _, ok, e := mark.Shortage(b, 0, found, tenClaims(6)); ok || e != api.OK {
		t.Errorf("Shortage: %v, error %d", ok, e)
	}
	if lacking, ok, e := mark.Shortage(b, 0, found, tenClaims(7)); len(lacking) != 9 || !ok || e != api.OK { // 63 of 60; eight claim 56
		t.Errorf("Shortage: %v, %v, error %d", lacking, ok, e)
	}
	if _, ok, e := mark.Assign(b, 0, found, tenClaims(7)); ok || e != api.OK {
		t.Errorf("Assign of 70 of 60 beasts: %v, error %d", ok, e)
	}
}
