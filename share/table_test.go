package share_test

import (
	"math"
	"slices"
	"strings"
	"testing"

	"couchant/api"
	"couchant/share"
)

// A4.
func TestCheckEqual(t *testing.T) {
	good := []api.Equal{
		equal(1, 0, "a", 0, 1, 1),
		equal(api.MaxId, api.MaxDay, "z-9", api.MaxDay, 1, api.MaxDen),
		equal(1, 0, strings.Repeat("a", api.MaxName), 0, api.MaxStints, 1),
		equal(1, 0, "cow--", 0, 999999999, api.MaxDen),
		void(1, 0, 1),
		void(api.MaxId, api.MaxDay, api.MaxId),
	}
	for _, x := range good {
		if e := share.CheckEqual(x); e != api.OK {
			t.Errorf("%v: error %d", x, e)
		}
	}
	bad := []api.Equal{
		{},
		equal(0, 0, "a", 0, 1, 1), equal(-1, 0, "a", 0, 1, 1), equal(api.MaxId+1, 0, "a", 0, 1, 1),
		equal(1, -1, "a", 0, 1, 1), equal(1, api.MaxDay+1, "a", 0, 1, 1),
		equal(1, 0, "a", -1, 1, 1), equal(1, 0, "a", api.MaxDay+1, 1, 1),
		equal(1, 0, "a", 0, 0, 1), equal(1, 0, "a", 0, -1, 1), equal(1, 0, "a", 0, 1001, 1), equal(1, 0, "a", 0, 1000001, 1000), equal(1, 0, "a", 0, 2, 4), equal(1, 0, "a", 0, 1, 0),
		void(0, 0, 1), void(api.MaxId+1, 0, 1), void(1, -1, 1), void(1, api.MaxDay+1, 1), void(1, 0, api.MaxId+1), void(1, 0, -1), void(1, 0, 0),
		{Id: 2, Of: 1, From: 1}, {Id: 2, Of: 1, Sort: "a"}, {Id: 2, Of: 1, Stints: f(0, 1)}, {Id: 2, Of: 1, Stints: f(1, 1)},
		{Id: 2, Of: 1, Sort: "a", Stints: f(1, 1)},
		equal(math.MinInt, math.MaxInt, "", math.MinInt, math.MinInt, math.MinInt),
	}
	for _, sort := range []string{"", "A", "9", "-a", "aB", "a_", "a b", "a\n", "a\x00", "é", "aé", "a`", "a{", "a/", "a:", "a,", "a.", strings.Repeat("a", api.MaxName+1)} {
		bad = append(bad, equal(1, 0, sort, 0, 1, 1))
	}
	for _, x := range bad {
		if e := share.CheckEqual(x); e != api.ErrArg {
			t.Errorf("%v: error %d", x, e)
		}
	}
}

// long returns a table with n equivalents.
func long(n int) []api.Equal {
	var l []api.Equal
	for i := range n {
		l = append(l, equal(1+i, 0, "cow", i, 1, 1+i))
	}
	return l
}

// A4.
func TestCheckAndAppend(t *testing.T) {
	cow := equal(1, 5, "cow", 0, 1, 1)
	for _, x := range []struct {
		name string
		l    []api.Equal
		at   int
		e    api.Errno
	}{
		{"nothing", nil, 0, api.OK},
		{"sample", sample(), 0, api.OK},
		{"200", long(200), 0, api.OK},
		{"201", long(201), 200, api.ErrLimit},
		{"a bad one behind 200", append(long(200), api.Equal{}), 200, api.ErrLimit},
		{"a bad one before 201", append([]api.Equal{{}}, long(201)...), 0, api.ErrArg},
		{"a bad one", []api.Equal{cow, {Id: 1}}, 1, api.ErrArg},
		{"an Id twice, and earlier", []api.Equal{cow, equal(1, 4, "ewe", 0, 1, 1)}, 1, api.ErrTwice},
		{"an Id twice, one apart", []api.Equal{cow, equal(2, 5, "ewe", 0, 1, 1), equal(1, 5, "ewe", 0, 1, 1)}, 2, api.ErrTwice},
		{"the Id of a void", []api.Equal{cow, void(2, 5, 1), equal(2, 5, "ewe", 0, 1, 1)}, 2, api.ErrTwice},
		{"a void with the Id of its own equivalent", []api.Equal{cow, void(1, 5, 1)}, 1, api.ErrTwice},
		{"earlier", []api.Equal{cow, equal(2, 4, "ewe", 0, 1, 1)}, 1, api.ErrTime},
		{"earlier than the one before, not than the first", []api.Equal{cow, equal(2, 7, "ewe", 0, 1, 1), equal(3, 6, "ewe", 0, 1, 1)}, 2, api.ErrTime},
		{"an earlier void of nothing", []api.Equal{cow, void(2, 4, 9)}, 1, api.ErrTime},
		{"Ids in any order", []api.Equal{equal(9, 0, "cow", 0, 1, 1), equal(3, 0, "cow", 0, 1, 1)}, 0, api.OK},
		{"a void of nothing", []api.Equal{cow, void(2, 5, 9)}, 1, api.ErrNone},
		{"a void of itself", []api.Equal{void(1, 5, 1)}, 0, api.ErrNone},
		{"a void of a later one", []api.Equal{void(2, 5, 1), cow}, 0, api.ErrNone},
		{"a void of a void", []api.Equal{cow, void(2, 5, 1), void(3, 5, 2)}, 2, api.ErrNone},
		{"a void twice", []api.Equal{cow, void(2, 5, 1), void(3, 5, 1)}, 2, api.ErrTwice},
		{"a void", []api.Equal{cow, void(2, 5, 1)}, 0, api.OK},
		{"two voids", []api.Equal{cow, equal(2, 5, "cow", 0, 1, 1), void(3, 5, 1), void(4, 5, 2)}, 0, api.OK},
		{"the first of two bad ones", []api.Equal{cow, void(2, 5, 9), {}}, 1, api.ErrNone},
	} {
		before := slices.Clone(x.l)
		if at, e := share.Check(x.l); at != x.at || e != x.e {
			t.Errorf("Check of %s: %d, error %d", x.name, at, e)
		}
		if len(x.l) == 0 {
			continue
		}
		got, e := share.Append(x.l[:len(x.l)-1], x.l[len(x.l)-1])
		if e != x.e || e == api.OK && !slices.Equal(got, x.l) || e != api.OK && len(got) > 0 {
			t.Errorf("Append of %s: %v, error %d", x.name, got, e)
		}
		if !slices.Equal(x.l, before) {
			t.Errorf("Append of %s changed its argument", x.name)
		}
	}
	if got, e := share.Append(faulty(), api.Equal{}); len(got) > 0 || e != api.ErrTwice {
		t.Errorf("Append to a list that is no table: %v, error %d", got, e)
	}
}

// A5.
func TestOf(t *testing.T) {
	l := sample()
	for _, x := range []struct {
		sort       string
		day, known int
		id         int
	}{
		{"sheep", 150, 15, 4}, {"sheep", 150, 20, 2}, {"sheep", 50, 15, 2}, {"sheep", 100, 10, 4}, {"sheep", 99, 10, 2}, {"sheep", 100, 9, 2}, {"sheep", 100, 19, 4},
		{"cow", 0, 0, 1}, {"cow", math.MaxInt, math.MaxInt, 1}, {"sheep", math.MaxInt, 10, 4},
		{"cow", -1, 0, 0}, {"cow", 0, -1, 0}, {"cow", math.MinInt, math.MinInt, 0}, {"goat", 0, 0, 0}, {"", 0, 100, 0}, {"Cow", 0, 0, 0}, {"cow ", 0, 0, 0},
	} {
		want, e := api.Equal{}, api.ErrSort
		if x.id > 0 {
			want, e = l[x.id-1], api.OK
		}
		if got, g := share.Of(l, x.sort, x.day, x.known); got != want || g != e {
			t.Errorf("Of(%q, %d, %d): %v, error %d", x.sort, x.day, x.known, got, g)
		}
	}
	tie := []api.Equal{equal(7, 0, "cow", 4, 1, 2), equal(9, 0, "cow", 3, 1, 3), equal(3, 0, "cow", 4, 1, 4), equal(8, 1, "cow", 4, 1, 5), void(1, 2, 8)}
	for _, x := range []struct{ day, known, id int }{{4, 0, 7}, {5, 1, 8}, {4, 2, 7}, {3, 0, 9}} {
		if got, e := share.Of(tie, "cow", x.day, x.known); got.Id != x.id || e != api.OK {
			t.Errorf("Of on the day %d by %d: %v, error %d", x.day, x.known, got, e)
		}
	}
	if got, e := share.Of(faulty(), "cow", 0, 0); got != (api.Equal{}) || e != api.ErrTwice {
		t.Errorf("Of by a list that is no table: %v, error %d", got, e)
	}
	if got, e := share.Of(nil, "cow", 0, 0); got != (api.Equal{}) || e != api.ErrSort {
		t.Errorf("Of by no records: %v, error %d", got, e)
	}
}

// A5.
func TestSorts(t *testing.T) {
	l := []api.Equal{
		equal(1, 0, "sheep", 0, 1, 4), equal(2, 0, "cow", 0, 1, 1), equal(3, 0, "cow-1", 10, 1, 1), equal(4, 0, "cow0", 0, 1, 1),
		equal(5, 3, "sheep", 5, 1, 5), equal(6, 3, "ass", 0, 1, 1), void(7, 4, 2), void(8, 4, 5),
	}
	for _, x := range []struct {
		day, known int
		want       []string
	}{
		{0, 0, []string{"cow", "cow0", "sheep"}},
		{10, 0, []string{"cow", "cow-1", "cow0", "sheep"}},
		{9, 3, []string{"ass", "cow", "cow0", "sheep"}},
		{math.MaxInt, 4, []string{"ass", "cow-1", "cow0", "sheep"}},
		{-1, 4, nil}, {0, -1, nil},
	} {
		if got := share.Sorts(l, x.day, x.known); !slices.Equal(got, x.want) {
			t.Errorf("Sorts(%d, %d): %v", x.day, x.known, got)
		}
	}
	if got := share.Sorts(faulty(), 9, 9); len(got) > 0 {
		t.Errorf("Sorts of a list that is no table: %v", got)
	}
}

// A6.
func TestTurns(t *testing.T) {
	l := []api.Equal{
		equal(1, 0, "ewe", 4, 1, 4), equal(2, 0, "ewe", 9, 1, 4), equal(3, 0, "ewe", 12, 1, 5), equal(4, 1, "ewe", 0, 1, 3),
		equal(5, 2, "ewe", api.MaxDay, 1, 2), equal(6, 2, "cow", 7, 1, 1), void(7, 3, 3), equal(8, 4, "ewe", 9, 1, 3),
	}
	for _, x := range []struct {
		sort  string
		known int
		want  []int
	}{
		{"ewe", -1, nil}, {"ewe", 0, []int{4, 12}}, {"ewe", 1, []int{0, 4, 12}}, {"ewe", 2, []int{0, 4, 12, api.MaxDay}}, {"ewe", 3, []int{0, 4, api.MaxDay}},
		{"ewe", math.MaxInt, []int{0, 4, 9, api.MaxDay}}, {"cow", 1, nil}, {"cow", 2, []int{7}}, {"goat", 9, nil}, {"", 9, nil},
	} {
		if got := share.Turns(l, x.sort, x.known); !slices.Equal(got, x.want) {
			t.Errorf("Turns(%s, %d): %v", x.sort, x.known, got)
		}
	}
	if got := share.Turns(sample(), "sheep", 15); !slices.Equal(got, []int{0, 100}) {
		t.Errorf("Turns of the example: %v", got)
	}
	if got := share.Turns(sample(), "sheep", 20); !slices.Equal(got, []int{0}) {
		t.Errorf("Turns of the example: %v", got)
	}
	if got := share.Turns(faulty(), "cow", 9); len(got) > 0 {
		t.Errorf("Turns of a list that is no table: %v", got)
	}
}

// A6.
func TestReached(t *testing.T) {
	l := sample()
	for _, x := range []struct {
		name string
		l    []api.Equal
		x    api.Equal
		want []string
		e    api.Errno
	}{
		{"the example", l[:4], l[4], []string{"sheep"}, api.OK},
		{"a new sort", l, equal(6, 20, "goat", api.MaxDay, 1, 9), []string{"goat"}, api.OK},
		{"a new sort alone", nil, equal(6, 0, "goat", 0, 1, 9), []string{"goat"}, api.OK},
		{"the same again", l, equal(6, 20, "sheep", 0, 1, 4), nil, api.OK},
		{"the same later", l, equal(6, 20, "sheep", 50, 1, 4), nil, api.OK},
		{"others later", l, equal(6, 20, "sheep", 50, 1, 3), []string{"sheep"}, api.OK},
		{"others up to an old one", l[:4], equal(6, 10, "sheep", 99, 1, 3), []string{"sheep"}, api.OK},
		{"others behind a greater Id", []api.Equal{equal(9, 0, "cow", 5, 1, 1)}, equal(1, 0, "cow", 5, 1, 2), nil, api.OK},
		{"a void of the only one", l, void(6, 20, 1), []string{"cow"}, api.OK},
		{"a void of a hidden one", append(l, equal(6, 20, "cow", 0, 1, 2)), void(7, 20, 1), nil, api.OK},
		{"a void of one of two alike", append(l, equal(6, 20, "cow", 0, 1, 1)), void(7, 20, 6), nil, api.OK},
		{"a void of nothing", l, void(6, 20, 9), nil, api.ErrNone},
		{"too early", l, equal(6, 19, "cow", 0, 1, 2), nil, api.ErrTime},
		{"a bad record", l, api.Equal{}, nil, api.ErrArg},
		{"one too many", long(200), equal(900, 0, "cow", 0, 1, 1), nil, api.ErrLimit},
		{"no table", faulty(), api.Equal{}, nil, api.ErrTwice},
	} {
		if got, e := share.Reached(x.l, x.x); !slices.Equal(got, x.want) || e != x.e {
			t.Errorf("Reached by %s: %v, error %d", x.name, got, e)
		}
	}
}

// P1.1 (A5), against the chapter's words.
func TestForceAtRandom(t *testing.T) {
	r := random(11)
	for range 60 {
		l := randomTable(r, 1+r.IntN(14))
		for known := -1; known < 12; known++ {
			for _, day := range []int{-1, 0, 1, 2, 3, 4, 5, 99998, 99999, 100000, 100001} {
				var sorts []string
				for _, sort := range []string{"cow", "ewe", "ewe-1"} {
					want, found := forceOn(l, sort, day, known)
					got, e := share.Of(l, sort, day, known)
					if got != want || (e == api.OK) != found || !found && e != api.ErrSort {
						t.Fatalf("Of(%v, %s, %d, %d): %v, error %d", l, sort, day, known, got, e)
					}
					if found {
						sorts = append(sorts, sort)
					}
				}
				if got := share.Sorts(l, day, known); !slices.Equal(got, sorts) {
					t.Fatalf("Sorts(%v, %d, %d): %v", l, day, known, got)
				}
			}
		}
	}
}

// P1.1 (A6) and P1.7: on every day.
func TestTurnsAndReachedAtRandom(t *testing.T) {
	r := random(12)
	for range 12 {
		l := randomTable(r, 1+r.IntN(10))
		old, last := l[:len(l)-1], l[len(l)-1]
		known := last.Known - r.IntN(2)
		var reached []string
		for _, sort := range []string{"cow", "ewe", "ewe-1"} {
			var turns []int
			changed := false
			before := api.Frac{}
			for day := range api.MaxDay + 1 {
				now, _ := forceOn(l, sort, day, known)
				if now.Stints != before {
					turns = append(turns, day)
				}
				before = now.Stints
				with, _ := forceOn(l, sort, day, last.Known)
				without, _ := forceOn(old, sort, day, last.Known)
				changed = changed || with.Stints != without.Stints
			}
			if got := share.Turns(l, sort, known); !slices.Equal(got, turns) {
				t.Errorf("Turns(%v, %s, %d): %v, want %v", l, sort, known, got, turns)
			}
			if changed {
				reached = append(reached, sort)
			}
		}
		if got, e := share.Reached(old, last); e != api.OK || !slices.Equal(got, reached) {
			t.Errorf("Reached(%v, %v): %v, error %d, want %v", old, last, got, e, reached)
		}
	}
}

// P1.7.
func TestLaterRecordsAndOrder(t *testing.T) {
	r := random(13)
	swapped := 0
	for range 60 {
		l := randomTable(r, 2+r.IntN(12))
		other := slices.Clone(l)
		for range 20 {
			i := r.IntN(len(l) - 1)
			if other[i].Known != other[i+1].Known {
				continue
			}
			other[i], other[i+1] = other[i+1], other[i]
			if accepted(other) {
				swapped++
			} else {
				other[i], other[i+1] = other[i+1], other[i]
			}
		}
		for known := range 8 {
			first, _ := slices.BinarySearchFunc(l, known+1, func(x api.Equal, k int) int { return x.Known - k })
			for _, day := range []int{0, 1, 2, 4, 99999, 100000} {
				for _, sort := range []string{"cow", "ewe", "ewe-1"} {
					want, e := share.Of(l, sort, day, known)
					if got, g := share.Of(l[:first], sort, day, known); got != want || g != e {
						t.Fatalf("Of(%v, %s, %d, %d) depends on what is known later", l, sort, day, known)
					}
					if got, g := share.Of(other, sort, day, known); got != want || g != e {
						t.Fatalf("Of(%v, %s, %d, %d) depends on the order of records", l, sort, day, known)
					}
				}
			}
		}
	}
	if swapped < 50 {
		t.Errorf("only %d records were swapped", swapped)
	}
}
