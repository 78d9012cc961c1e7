package mark

import (
	"slices"

	"couchant/api"
)

// Range returns how many found beasts fit an owner and nobody else, and how many fit the owner and others.
func Range(b api.Smits, day int, found []api.Sight, owner int) (sure, perhaps int, e api.Errno) {
	if e := firstError(CheckSmits(b), valid(isDay(day)), valid(isOwner(owner)), checkFound(found)); e != api.OK {
		return 0, 0, e
	}
	v := viewOf(b, day)
	for _, s := range found {
		switch owners := v.owners(s); {
		case owners == just(owner):
			sure++
		case owners.has(owner):
			perhaps++
		}
	}
	return sure, perhaps, api.OK
}

// Groups returns each list of owners that some found beast can be of, and how many such beasts there are.
func Groups(b api.Smits, day int, found []api.Sight) ([]api.Group, api.Errno) {
	if e := firstError(CheckSmits(b), valid(isDay(day)), checkFound(found)); e != api.OK {
		return nil, e
	}
	v := viewOf(b, day)
	numbers := map[set]int{}
	for _, s := range found {
		numbers[v.owners(s)]++
	}
	var groups []api.Group
	for owners, n := range numbers {
		groups = append(groups, api.Group{Owners: owners.list(), Number: n})
	}
	slices.SortFunc(groups, func(x, y api.Group) int { return compareLists(x.Owners, y.Owners) })
	return groups, api.OK
}
