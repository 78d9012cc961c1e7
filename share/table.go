package share

import (
	"cmp"
	"iter"
	"slices"

	"couchant/api"
)

// CheckEqual returns ErrArg if a record is not well-formed.
func CheckEqual(x api.Equal) api.Errno {
	if within(x.Id, 1, api.MaxId) && within(x.Known, 0, api.MaxDay) && (isEquivalent(x) || isVoid(x)) {
		return api.OK
	}
	return api.ErrArg
}

func isEquivalent(x api.Equal) bool {
	return x.Of == 0 && isName(x.Sort) && within(x.From, 0, api.MaxDay) && valid(x.Stints) &&
		x.Stints.Num > 0 && Compare(x.Stints, api.Frac{Num: api.MaxStints, Den: 1}) <= 0
}

func isVoid(x api.Equal) bool {
	return within(x.Of, 1, api.MaxId) && x == api.Equal{Id: x.Id, Known: x.Known, Of: x.Of}
}

// Check returns the index of the first record that a table cannot have there, and why.
func Check(l []api.Equal) (int, api.Errno) {
	for i, x := range l {
		if e := refusal(l[:i], x); e != api.OK {
			return i, e
		}
	}
	return 0, api.OK
}

// refusal returns why a record cannot stand behind those of a table.
func refusal(table []api.Equal, x api.Equal) api.Errno {
	switch {
	case len(table) == api.MaxEquals:
		return api.ErrLimit
	case CheckEqual(x) != api.OK:
		return api.ErrArg
	case slices.ContainsFunc(table, func(y api.Equal) bool { return y.Id == x.Id }):
		return api.ErrTwice
	case len(table) > 0 && x.Known < table[len(table)-1].Known:
		return api.ErrTime
	case x.Of == 0:
		return api.OK
	case !slices.ContainsFunc(table, func(y api.Equal) bool { return y.Id == x.Of && y.Of == 0 }):
		return api.ErrNone
	case slices.ContainsFunc(table, func(y api.Equal) bool { return y.Of == x.Of }):
		return api.ErrTwice
	}
	return api.OK
}

// Append returns a table with one record more.
func Append(l []api.Equal, x api.Equal) ([]api.Equal, api.Errno) {
	longer := append(slices.Clone(l), x)
	if _, e := Check(longer); e != api.OK {
		return nil, e
	}
	return longer, api.OK
}

// counting yields the equivalents that count on a day of knowledge, in the order of the table.
func counting(l []api.Equal, known int) iter.Seq[api.Equal] {
	return func(yield func(api.Equal) bool) {
		void := map[int]bool{}
		for _, x := range l {
			if x.Known <= known {
				void[x.Of] = true
			}
		}
		for _, x := range l {
			if x.Of == 0 && x.Known <= known && !void[x.Id] && !yield(x) {
				return
			}
		}
	}
}

// greatest returns the greatest of the items that fit, and whether there is one.
func greatest[T any](items iter.Seq[T], fits func(T) bool, compare func(a, b T) int) (T, bool) {
	var best T
	found := false
	for x := range items {
		if fits(x) && (!found || compare(x, best) > 0) {
			best, found = x, true
		}
	}
	return best, found
}

// inForce returns the equivalent in force, and whether there is one.
func inForce(l []api.Equal, sort string, day, known int) (api.Equal, bool) {
	fits := func(x api.Equal) bool { return x.Sort == sort && x.From <= day }
	return greatest(counting(l, known), fits, func(a, b api.Equal) int {
		return cmp.Or(cmp.Compare(a.From, b.From), cmp.Compare(a.Id, b.Id))
	})
}

// Of returns the equivalent in force for a sort on a day.
func Of(l []api.Equal, sort string, day, known int) (api.Equal, api.Errno) {
	if _, e := Check(l); e != api.OK {
		return api.Equal{}, e
	}
	x, found := inForce(l, sort, day, known)
	if !found {
		return api.Equal{}, api.ErrSort
	}
	return x, api.OK
}

// Sorts returns the sorts for which an equivalent is in force, ascending.
func Sorts(l []api.Equal, day, known int) []string {
	if _, e := Check(l); e != api.OK {
		return nil
	}
	var sorts []string
	for x := range counting(l, known) {
		if x.From <= day {
			sorts = append(sorts, x.Sort)
		}
	}
	slices.Sort(sorts)
	return slices.Compact(sorts)
}

// starts returns the days on which equivalents of a sort begin, ascending: on no others the Stints can change.
func starts(l []api.Equal, sort string) []int {
	var days []int
	for _, x := range l {
		if x.Sort == sort {
			days = append(days, x.From)
		}
	}
	slices.Sort(days)
	return slices.Compact(days)
}

// stintsOn returns the Stints in force for a sort on a day; {0, 0}, which differs from all fractions, if there are none.
func stintsOn(l []api.Equal, sort string, day, known int) api.Frac {
	x, _ := inForce(l, sort, day, known)
	return x.Stints
}

// Turns returns the days on which the Stints of a sort change, ascending.
func Turns(l []api.Equal, sort string, known int) []int {
	if _, e := Check(l); e != api.OK {
		return nil
	}
	var turns []int
	for _, day := range starts(l, sort) {
		if stintsOn(l, sort, day, known) != stintsOn(l, sort, day-1, known) {
			turns = append(turns, day)
		}
	}
	return turns
}

// Reached returns the sorts whose Stints in force a further record changes.
func Reached(l []api.Equal, x api.Equal) ([]string, api.Errno) {
	longer, e := Append(l, x)
	if e != api.OK {
		return nil, e
	}
	sort := sortOf(l, x)
	for _, day := range starts(longer, sort) {
		if stintsOn(longer, sort, day, x.Known) != stintsOn(l, sort, day, x.Known) {
			return []string{sort}, api.OK
		}
	}
	return nil, api.OK
}

// sortOf returns the sort that a record is about: its own one, or that of the equivalent that it makes void.
func sortOf(l []api.Equal, x api.Equal) string {
	for _, y := range l {
		if y.Id == x.Of {
			return y.Sort
		}
	}
	return x.Sort
}
