package mark_test

import (
	"slices"
	"testing"

	"couchant/api"
	"couchant/mark"
)

// B12 and B13: the chapter's examples, and the edges.
func TestAssignAndShortage(t *testing.T) {
	b, found := sample(t), sampleFound(t)
	for _, c := range []struct {
		claims          []api.Claim
		owners, lacking []int
	}{
		{claims(1, 1, 2, 2), []int{2, 2, 1}, nil},
		{claims(2, 2, 1, 1), []int{2, 2, 1}, nil},
		{claims(1, 2, 2, 2), nil, []int{1, 2}},
		{claims(2, 2, 1, 2), nil, []int{1, 2}},
		{claims(1, 2, 2, 1), []int{1, 2, 1}, nil},
		{claims(1, 1), []int{0, 0, 1}, nil},
		{claims(1, 2), []int{0, 1, 1}, nil},
		{claims(2, 1), []int{0, 2, 0}, nil},
		{claims(1, 3), []int{1, 1, 1}, nil},
		{claims(1, 4), nil, []int{1}},
		{claims(2, 3), nil, []int{2}},
		{claims(1, 4, 2, 3), nil, []int{1}},
		{claims(1, 1, 2, 3), nil, []int{2}},
		{claims(1, 2, 2, 2, 3, 1), nil, []int{3}}, // 3 has no mark yet: a shorter list comes first
		{claims(1, 0, 2, 0, 3, 0), []int{0, 0, 0}, nil},
		{claims(40, 1), nil, []int{40}},
		{claims(40, 60), nil, []int{40}},
		{nil, []int{0, 0, 0}, nil},
	} {
		owners, ok, e := mark.Assign(b, 0, found, c.claims)
		if !slices.Equal(owners, c.owners) || ok != (c.lacking == nil) || e != api.OK {
			t.Errorf("Assign of %v: %v, %v, error %d", c.claims, owners, ok, e)
		}
		lacking, ok, e := mark.Shortage(b, 0, found, c.claims)
		if !slices.Equal(lacking, c.lacking) || ok != (c.lacking != nil) || e != api.OK {
			t.Errorf("Shortage of %v: %v, %v, error %d", c.claims, lacking, ok, e)
		}
	}
	if owners, ok, e := mark.Assign(b, 0, nil, claims(1, 0)); len(owners) != 0 || !ok || e != api.OK {
		t.Errorf("Assign of no beasts: %v, %v, error %d", owners, ok, e)
	}
	if lacking, ok, e := mark.Shortage(b, 0, nil, claims(1, 0, 2, 1)); !slices.Equal(lacking, []int{2}) || !ok || e != api.OK {
		t.Errorf("Shortage of no beasts: %v, %v, error %d", lacking, ok, e)
	}
}

// B13: of shortages of one length that with the lesser owners comes first.
func TestFirstShortage(t *testing.T) {
	b := smits(t, "1 0 0 plain plain bare bare bare bare", "2 0 0 plain plain red bare bare bare", "3 0 0 plain plain blue bare bare bare", "9 0 0 plain plain green bare bare bare",
		"fade 1 0", "fade 2 0", "fade 3 0")
	found := sights(t, "plain plain bare bare bare bare", "plain plain red bare bare bare")
	for _, c := range []struct {
		claims []api.Claim
		want   []int
	}{
		{claims(9, 1, 3, 1, 1, 1), []int{1, 3}},
		{claims(9, 1, 3, 1, 2, 1), []int{3, 9}},
		{claims(9, 1, 2, 1, 1, 1), []int{1, 9}},
		{claims(9, 1, 2, 2), []int{2, 9}},
		{claims(9, 1, 2, 2, 1, 2), []int{1}},
		{claims(9, 1, 2, 1, 3, 0, 1, 1), []int{1, 9}},
		{claims(3, 1, 2, 1, 9, 1, 40, 1), []int{40}},
	} {
		if got, ok, e := mark.Shortage(b, 0, found, c.claims); !slices.Equal(got, c.want) || !ok || e != api.OK {
			t.Errorf("Shortage of %v: %v, %v, error %d, want %v", c.claims, got, ok, e, c.want)
		}
	}
}

// B13.
func TestCheckShortage(t *testing.T) {
	b, found := sample(t), sampleFound(t)
	for _, c := range []struct {
		claims []api.Claim
		owners []int
		want   bool
	}{
		{claims(1, 2, 2, 2), []int{1, 2}, true},
		{claims(2, 2, 1, 2), []int{1, 2}, true},
		{claims(1, 2, 2, 2), []int{2}, false},
		{claims(1, 2, 2, 2), []int{1}, false},
		{claims(1, 2, 2, 2), []int{2, 1}, false},
		{claims(1, 2, 2, 2), []int{1, 1, 2}, false},
		{claims(1, 2, 2, 2), []int{1, 2, 2}, false},
		{claims(1, 2, 2, 2), []int{1, 2, 3}, false},
		{claims(1, 2, 2, 2), nil, false},
		{claims(1, 2, 2, 2, 3, 0), []int{1, 2, 3}, true},
		{claims(1, 1, 2, 3, 3, 1), []int{2, 3}, true},
		{claims(1, 4), []int{1}, true},
		{claims(1, 4), []int{1, 1}, false},
		{claims(1, 4), []int{0}, false},
		{claims(1, 4), []int{0, 1}, false},
		{claims(1, 4), []int{-1, 1}, false},
		{claims(1, 4), []int{1, 41}, false},
		{claims(1, 4), []int{1, 1 << 40}, false},
		{claims(1, 4), []int{-1 << 63, 1}, false},
		{claims(1, 4), []int{1, 65}, false},
	} {
		if got, e := mark.CheckShortage(b, 0, found, c.claims, c.owners); got != c.want || e != api.OK {
			t.Errorf("CheckShortage of %v and %v: %v, error %d", c.claims, c.owners, got, e)
		}
	}
}

// B14.
func TestCertain(t *testing.T) {
	b, found := sample(t), sampleFound(t)
	for _, c := range []struct {
		claims []api.Claim
		want   []int
		e      api.Errno
	}{
		{claims(1, 2, 2, 1), []int{0, 0, 1}, api.OK},
		{claims(1, 1, 2, 2), []int{2, 2, 1}, api.OK},
		{claims(1, 3), []int{1, 1, 1}, api.OK},
		{claims(1, 1), []int{0, 0, 0}, api.OK},
		{claims(1, 0), []int{0, 0, 0}, api.OK},
		{claims(1, 1, 2, 1), []int{0, 0, 0}, api.OK},
		{nil, []int{0, 0, 0}, api.OK},
		{claims(1, 2, 2, 2), nil, api.ErrClaim},
		{claims(3, 1), nil, api.ErrClaim},
	} {
		if got, e := mark.Certain(b, 0, found, c.claims); !slices.Equal(got, c.want) || e != c.e {
			t.Errorf("Certain of %v: %v, error %d, want %v", c.claims, got, e, c.want)
		}
	}
}

// tenClaims are claims of the owners 1 to 10.
func tenClaims(number int) []api.Claim {
	var l []api.Claim
	for owner := 1; owner <= 10; owner++ {
		l = append(l, api.Claim{Owner: owner, Number: number})
	}
	return l
}

// B15.
func TestMost(t *testing.T) {
	b, found := sample(t), sampleFound(t)
	for _, c := range []struct {
		claims []api.Claim
		owner  int
		want   int
		e      api.Errno
	}{
		{claims(1, 2), 2, 1, api.OK},
		{claims(1, 2, 2, 60), 2, 1, api.OK},
		{claims(2, 0, 1, 2), 2, 1, api.OK},
		{claims(1, 3), 2, 0, api.OK},
		{claims(1, 4), 2, 0, api.ErrClaim},
		{claims(1, 4), 1, 3, api.OK},
		{claims(2, 1), 1, 2, api.OK},
		{claims(2, 2), 1, 1, api.OK},
		{claims(2, 3), 1, 0, api.ErrClaim},
		{nil, 1, 3, api.OK},
		{nil, 2, 2, api.OK},
		{nil, 3, 0, api.OK},
		{nil, 40, 0, api.OK},
		{tenClaims(0), 10, 0, api.OK},
		{tenClaims(0), 1, 3, api.OK},
		{tenClaims(0), 11, 0, api.ErrLimit},
		{tenClaims(0)[1:], 11, 0, api.OK},
		{tenClaims(0)[1:], 1, 3, api.OK},
		{tenClaims(1), 1, 0, api.ErrClaim},
		{tenClaims(1), 11, 0, api.ErrLimit},
	} {
		if got, e := mark.Most(b, 0, found, c.claims, c.owner); got != c.want || e != c.e {
			t.Errorf("Most of %v for %d: %d, error %d, want %d, error %d", c.claims, c.owner, got, e, c.want, c.e)
		}
	}
	if got, e := mark.Most(b, 0, slices.Repeat(found, 20), claims(2, 10), 1); got != 50 || e != api.OK {
		t.Errorf("Most of 60 beasts: %d, error %d", got, e)
	}
}

// B16.
func TestMeets(t *testing.T) {
	b, found := sample(t), sampleFound(t)
	for _, c := range []struct {
		claims []api.Claim
		owners []int
		want   bool
	}{
		{claims(1, 1, 2, 2), []int{2, 2, 1}, true},
		{claims(1, 1, 2, 2), []int{2, 1, 2}, false}, // the last one does not fit 2
		{claims(1, 1, 2, 2), []int{2, 2, 0}, false},
		{claims(1, 1, 2, 2), []int{2, 2}, false},
		{claims(1, 1, 2, 2), []int{2, 2, 1, 0}, false},
		{claims(1, 1, 2, 2), nil, false},
		{claims(1, 1), []int{0, 0, 1}, true},
		{claims(1, 1), []int{0, 1, 0}, true},
		{claims(1, 1), []int{0, 1, 1}, false},
		{claims(1, 1), []int{2, 1, 0}, false}, // 2 claims nothing
		{claims(1, 1, 2, 0), []int{2, 1, 0}, false},
		{claims(1, 1, 2, 1), []int{2, 1, 0}, true},
		{claims(1, 0), []int{0, 0, 0}, true},
		{nil, []int{0, 0, 0}, true},
		{nil, []int{0, 0, 1}, false},
		{claims(1, 1), []int{0, 41, 1}, false},
		{claims(1, 1), []int{0, -1, 1}, false},
		{claims(1, 1), []int{0, 65, 1}, false},
		{claims(1, 1), []int{0, -1 << 63, 1}, false},
	} {
		if got, e := mark.Meets(b, 0, found, c.claims, c.owners); got != c.want || e != api.OK {
			t.Errorf("Meets of %v by %v: %v, error %d", c.claims, c.owners, got, e)
		}
	}
	if got, e := mark.Meets(b, 0, nil, nil, nil); !got || e != api.OK {
		t.Errorf("Meets of nothing: %v, error %d", got, e)
	}
}

// B12 to B16, against all assignments that there are.
func TestClaimsAgainstModel(t *testing.T) {
	r := random(32)
	met, short, settled := 0, 0, 0
	for range 4000 {
		b, day := randomSmits(r), r.IntN(lastDay)
		found := randomFound(r, b, day, 5)
		cl := randomClaims(r, b, day, found, 4)
		all := assignments(b, day, found, cl)
		owners, ok, e := mark.Assign(b, day, found, cl)
		if e != api.OK || ok != (len(all) > 0) || ok && !slices.Equal(owners, all[0]) || !ok && len(owners) > 0 {
			t.Fatalf("Assign(%v, %d, %v, %v): %v, %v, error %d", b, day, found, cl, owners, ok, e)
		}
		lists := ownerLists(cl)
		at := slices.IndexFunc(lists, func(l []int) bool { return isShortage(b, day, found, cl, l) })
		lacking, ok, e := mark.Shortage(b, day, found, cl)
		if e != api.OK || ok != (at >= 0) || ok && !slices.Equal(lacking, lists[at]) || !ok && len(lacking) > 0 {
			t.Fatalf("Shortage(%v, %d, %v, %v): %v, %v, error %d", b, day, found, cl, lacking, ok, e)
		}
		for _, l := range lists {
			if got, e := mark.CheckShortage(b, day, found, cl, l); e != api.OK || got != isShortage(b, day, found, cl, l) {
				t.Errorf("CheckShortage(%v, %d, %v, %v, %v): %v, error %d", b, day, found, cl, l, got, e)
			}
		}
		certain, e := mark.Certain(b, day, found, cl)
		if want := common(all); !slices.Equal(certain, want) || (e == api.OK) != (len(all) > 0) || e != api.OK && e != api.ErrClaim {
			t.Errorf("Certain(%v, %d, %v, %v): %v, error %d, want %v", b, day, found, cl, certain, e, want)
		}
		if len(all) > 0 {
			met++
		} else {
			short++
		}
		if slices.Max(append(certain, 0)) > 0 {
			settled++
		}
	}
	if met < 1000 || short < 600 || settled < 400 {
		t.Errorf("%d claims were met, %d not, of %d was something certain", met, short, settled)
	}
}

// common returns the owners that beasts have in all assignments, 0 where these differ.
func common(all [][]int) []int {
	if len(all) == 0 {
		return nil
	}
	owners := slices.Clone(all[0])
	for _, l := range all {
		for i := range l {
			if l[i] != owners[i] {
				owners[i] = 0
			}
		}
	}
	return owners
}

// B15 and B16, against all assignments that there are.
func TestMostAndMeetsAgainstModel(t *testing.T) {
	r := random(33)
	accepted, refused := 0, 0
	for range 2500 {
		b, day := randomSmits(r), r.IntN(lastDay)
		found := randomFound(r, b, day, 4)
		cl := randomClaims(r, b, day, found, 3)
		owner := pick(r, owners()...)
		others := slices.DeleteFunc(slices.Clone(cl), func(c api.Claim) bool { return c.Owner == owner })
		want := -1
		for n := range len(found) + 1 {
			if len(assignments(b, day, found, append(slices.Clone(others), api.Claim{Owner: owner, Number: n}))) > 0 {
				want = n
			}
		}
		got, e := mark.Most(b, day, found, cl, owner)
		if want < 0 && (got != 0 || e != api.ErrClaim) || want >= 0 && (got != want || e != api.OK) {
			t.Errorf("Most(%v, %d, %v, %v, %d): %d, error %d, want %d", b, day, found, cl, owner, got, e, want)
		}
		all := assignments(b, day, found, cl)
		for range 10 {
			l := make([]int, len(found))
			if len(all) > 0 && r.IntN(2) == 0 {
				copy(l, pick(r, all...))
			}
			if len(l) > 0 && r.IntN(2) == 0 {
				l[r.IntN(len(l))] = pick(r, 0, 1, 2, 3, 40)
			}
			meets := slices.ContainsFunc(all, func(x []int) bool { return slices.Equal(x, l) })
			if got, e := mark.Meets(b, day, found, cl, l); got != meets || e != api.OK {
				t.Errorf("Meets(%v, %d, %v, %v, %v): %v, error %d", b, day, found, cl, l, got, e)
			}
			if meets {
				accepted++
			} else {
				refused++
			}
		}
	}
	if accepted < 5000 || refused < 5000 {
		t.Errorf("%d lists met the claims, %d did not", accepted, refused)
	}
}
