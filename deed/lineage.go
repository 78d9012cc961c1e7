package deed

import (
	"maps"
	"slices"

	"couchant/api"
)

// named returns the owners whom a counting deed of a register names.
func named(l []api.Deed, x api.Deed) []int {
	if x.Of > 0 {
		x = l[x.Of-1]
	}
	isNobody := func(owner int) bool { return owner == 0 }
	return slices.DeleteFunc(append([]int{x.From, x.To}, x.Heirs...), isNobody)
}

// meet tells whether two lists have something in common.
func meet(a, b []int) bool {
	return slices.ContainsFunc(a, func(n int) bool { return slices.Contains(b, n) })
}

// Lineage returns the Ids of the deeds on which an owner's figures on a day rest, ascending.
func Lineage(l []api.Deed, known, day, owner int) []int {
	deeds := slices.Collect(counting(l, known))
	var names [][]int
	for _, x := range deeds {
		names = append(names, named(l, x))
	}
	found := map[int]bool{}
	var follow func(at int)
	follow = func(at int) {
		x := deeds[at]
		if found[x.Id] {
			return
		}
		found[x.Id] = true
		for i, y := range deeds {
			if y.Id == x.Of || i < at && meet(names[at], names[i]) {
				follow(i)
			}
		}
	}
	for i, x := range deeds {
		if x.Day <= day && slices.Contains(names[i], owner) {
			follow(i)
		}
	}
	return slices.Sorted(maps.Keys(found))
}

// Only returns the accounts that there would be on a day if, of the counting deeds, only those with some Ids were there.
func Only(l []api.Deed, known, day int, ids []int) []api.Account {
	deeds := func(yield func(api.Deed) bool) {
		for x := range counting(l, known) {
			if slices.Contains(ids, x.Id) && !yield(x) {
				return
			}
		}
	}
	return listed(doneBy(deeds, day).accounts())
}

// Moves returns the Ids of the deeds up to a day that name an owner and are not idle, ascending.
func Moves(l []api.Deed, known, day, owner int) []int {
	idle := on(l, known, day).idle
	var moves []int
	for x := range counting(l, known) {
		if x.Day <= day && slices.Contains(named(l, x), owner) && !slices.Contains(idle, x.Id) {
			moves = append(moves, x.Id)
		}
	}
	return ascending(moves)
}

// Source returns the Ids of the DeedEnters from which the parts come that somebody holds on a day, ascending, and how many come from each.
func Source(l []api.Deed, known, day, owner int) ([]int, []int) {
	held := on(l, known, day).holdings[owner]
	var ids, parts []int
	for _, id := range slices.Sorted(maps.Keys(held)) {
		if held[id] > 0 {
			ids = append(ids, id)
			parts = append(parts, held[id])
		}
	}
	return ids, parts
}
