package mark_test

import (
	"reflect"
	"slices"
	"testing"

	"couchant/api"
	"couchant/mark"
)

// B10.
func TestRange(t *testing.T) {
	b, found := sample(t), sampleFound(t)
	found = append(found, sights(t, "worn worn red bare bare bare", "holed holed bare bare bare bare")...)
	for _, c := range []struct{ day, owner, sure, perhaps int }{
		{0, 1, 2, 2}, {0, 2, 0, 2}, {0, 3, 0, 0}, {0, 40, 0, 0}, {10, 1, 1, 3}, {10, 3, 0, 1}, {101, 1, 0, 0},
	} {
		if sure, perhaps, e := mark.Range(b, c.day, found, c.owner); sure != c.sure || perhaps != c.perhaps || e != api.OK {
			t.Errorf("Range on the day %d of %d: %d, %d, error %d", c.day, c.owner, sure, perhaps, e)
		}
	}
	if sure, perhaps, e := mark.Range(b, 0, sampleFound(t), 1); sure != 1 || perhaps != 2 || e != api.OK {
		t.Errorf("Range: %d, %d, error %d", sure, perhaps, e)
	}
	full := slices.Repeat(sampleFound(t), 20)
	if sure, perhaps, e := mark.Range(b, 0, full, 1); sure != 20 || perhaps != 40 || e != api.OK {
		t.Errorf("Range of 60 beasts: %d, %d, error %d", sure, perhaps, e)
	}
	if sure, perhaps, e := mark.Range(b, 0, nil, 1); sure != 0 || perhaps != 0 || e != api.OK {
		t.Errorf("Range of no beast: %d, %d, error %d", sure, perhaps, e)
	}
}

// B11.
func TestGroups(t *testing.T) {
	b, found := sample(t), sampleFound(t)
	want := []api.Group{{Owners: []int{1}, Number: 1}, {Owners: []int{1, 2}, Number: 2}}
	if got, e := mark.Groups(b, 0, found); !reflect.DeepEqual(got, want) || e != api.OK {
		t.Errorf("Groups: %v, error %d", got, e)
	}
	if got, e := mark.Groups(b, 0, nil); len(got) > 0 || e != api.OK {
		t.Errorf("Groups of no beast: %v, error %d", got, e)
	}
	if got, e := mark.Groups(b, 101, found); len(got) != 1 || len(got[0].Owners) != 0 || got[0].Number != 3 || e != api.OK {
		t.Errorf("Groups of beasts of nobody: %v, error %d", got, e)
	}
	// A shorter list comes before a longer one, whatever it begins with.
	found = append(found, sights(t, "worn worn worn worn bare bare", "worn worn red bare bare bare", "plain worn worn worn worn worn", "holed holed bare bare bare bare", "worn worn blue worn worn worn")...)
	var lists [][]int
	var numbers []int
	groups, e := mark.Groups(b, 10, found)
	mustOK(t, "Groups", e)
	for _, g := range groups {
		lists, numbers = append(lists, slices.Clip(g.Owners)), append(numbers, g.Number)
	}
	if len(lists) != 7 || len(lists[0]) != 0 || !reflect.DeepEqual(lists[1:], [][]int{{1}, {2}, {3}, {1, 2}, {1, 3}, {1, 2, 3}}) || !slices.Equal(numbers, []int{1, 1, 1, 1, 2, 1, 1}) {
		t.Errorf("Groups: %v, %v", lists, numbers)
	}
}
