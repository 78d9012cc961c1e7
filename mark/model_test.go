package mark_test

import (
	"cmp"
	"slices"

	"couchant/api"
)

// seenAs says whether a sign may be seen so at a place, in the chapter's words.
func seenAs(b api.Smits, place int, g, v uint8) bool {
	return v == api.Worn || v == g || place > 1 && slices.Contains(b.Fades, api.Fade{Sign: g, Seen: v})
}

// fits says whether beasts with some signs may be seen as a sight.
func fits(b api.Smits, signs [api.MarkPlaces]uint8, s api.Sight) bool {
	for place := range signs {
		if !seenAs(b, place, signs[place], s.Signs[place]) {
			return false
		}
	}
	return true
}

// marksOn returns the marks in force on a day, by ascending owners.
func marksOn(b api.Smits, day int) []api.Mark {
	var l []api.Mark
	for owner := 1; owner <= api.MaxOwner; owner++ {
		for _, m := range b.Marks {
			if m.Owner == owner && m.From <= day && day <= m.Until {
				l = append(l, m)
			}
		}
	}
	return l
}

// fitting returns the owners whom a sight fits, ascending.
func fitting(b api.Smits, day int, s api.Sight) []int {
	var l []int
	for _, m := range marksOn(b, day) {
		if fits(b, m.Signs, s) {
			l = append(l, m.Owner)
		}
	}
	return l
}

// clearSights returns all clear sights, in their order.
func clearSights() []api.Sight {
	l := []api.Sight{{}}
	for place := range api.MarkPlaces {
		var longer []api.Sight
		for _, s := range l {
			for sign := range uint8(api.MaxSign + 1) {
				s.Signs[place] = sign
				longer = append(longer, s)
			}
		}
		l = longer
	}
	return l
}

// assignments returns all assignments of found beasts to owners of claims that meet these, in their order.
func assignments(b api.Smits, day int, found []api.Sight, claims []api.Claim) [][]int {
	owners := []int{0}
	for _, c := range claims {
		owners = append(owners, c.Owner)
	}
	slices.Sort(owners)
	all := [][]int{nil}
	for _, s := range found {
		var longer [][]int
		for _, l := range all {
			for _, owner := range owners {
				if owner == 0 || slices.Contains(fitting(b, day, s), owner) {
					longer = append(longer, append(slices.Clone(l), owner))
				}
			}
		}
		all = longer
	}
	return slices.DeleteFunc(all, func(l []int) bool {
		for _, c := range claims {
			if number(l, c.Owner) != c.Number {
				return true
			}
		}
		return false
	})
}

// number returns how often an owner is in a list.
func number(l []int, owner int) int {
	n := 0
	for _, x := range l {
		if x == owner {
			n++
		}
	}
	return n
}

// isShortage says whether owners of claims claim more than fits at least one of them.
func isShortage(b api.Smits, day int, found []api.Sight, claims []api.Claim, owners []int) bool {
	sum, fit := 0, 0
	for _, c := range claims {
		if slices.Contains(owners, c.Owner) {
			sum += c.Number
		}
	}
	for _, s := range found {
		if slices.ContainsFunc(fitting(b, day, s), func(owner int) bool { return slices.Contains(owners, owner) }) {
			fit++
		}
	}
	return sum > fit
}

// ownerLists returns all lists of owners of claims, the owners of each ascending, the lists by their length, then element by element.
func ownerLists(claims []api.Claim) [][]int {
	sorted := slices.SortedFunc(slices.Values(claims), func(x, y api.Claim) int { return x.Owner - y.Owner })
	lists := [][]int{nil}
	for _, c := range sorted {
		for _, l := range slices.Clone(lists) {
			lists = append(lists, append(slices.Clone(l), c.Owner))
		}
	}
	slices.SortFunc(lists, byLength)
	return lists
}

func byLength(x, y []int) int {
	return cmp.Or(len(x)-len(y), slices.Compare(x, y))
}
