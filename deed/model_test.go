package deed_test

import (
	"cmp"
	"slices"

	"couchant/api"
)

// model follows the chapter's words with every single part: who holds it, and where it comes from.
type model struct {
	parts    []part
	possible []api.Deed // those that were done and are not idle
	idle     []int
}

type part struct{ enter, holder int }

// countingDeeds returns the deeds that count, in the order in which they are done.
func countingDeeds(l []api.Deed, known int) []api.Deed {
	var deeds []api.Deed
	for _, x := range l {
		counts := x.Kind != api.DeedVoid && x.Known <= known
		for _, y := range l {
			if y.Kind == api.DeedVoid && y.Known <= known && y.Of == x.Id {
				counts = false
			}
		}
		if counts {
			deeds = append(deeds, x)
		}
	}
	slices.SortFunc(deeds, func(a, b api.Deed) int { return cmp.Or(cmp.Compare(a.Day, b.Day), cmp.Compare(a.Id, b.Id)) })
	return deeds
}

// doneOn returns what deeds, in the order in which they are done, have made on a day.
func doneOn(deeds []api.Deed, day int) *model {
	m := &model{}
	for _, x := range deeds {
		if x.Day > day {
			continue
		}
		if m.canDo(x) {
			m.do(x)
			m.possible = append(m.possible, x)
		} else {
			m.idle = append(m.idle, x.Id)
		}
	}
	slices.Sort(m.idle)
	return m
}

func (m *model) canDo(x api.Deed) bool {
	switch x.Kind {
	case api.DeedGrant, api.DeedLease, api.DeedPledge:
		return m.free(x.From, x.Day) >= x.Parts
	case api.DeedHeirs:
		return m.free(x.From, x.Day) > 0
	case api.DeedRedeem, api.DeedSeize:
		return slices.Contains(ids(m.pledges()), x.Of)
	}
	return true
}

func (m *model) do(x api.Deed) {
	switch x.Kind {
	case api.DeedEnter:
		for range x.Parts {
			m.parts = append(m.parts, part{x.Id, x.To})
		}
	case api.DeedGrant:
		m.give(x.From, x.To, x.Parts)
	case api.DeedHeirs:
		for i, n := range sharesOf(m.free(x.From, x.Day), x.Shares) {
			m.give(x.From, x.Heirs[i], n)
		}
	case api.DeedSeize:
		for _, p := range m.pledges() {
			if p.Id == x.Of {
				m.give(p.From, p.To, p.Parts)
			}
		}
	}
}

// sharesOf divides a number: what is left goes one by one to those of whom most was cut off.
func sharesOf(total int, shares []int) []int {
	sum, left := 0, total
	for _, n := range shares {
		sum += n
	}
	got, cut := make([]int, len(shares)), make([]int, len(shares))
	for i, n := range shares {
		got[i], cut[i] = total*n/sum, total*n%sum
		left -= got[i]
	}
	for range left {
		i := slices.Index(cut, slices.Max(cut))
		got[i]++
		cut[i] = -1
	}
	return got
}

// give lets parts change their holder, one by one, the one with the least DeedEnter first.
func (m *model) give(from, to, n int) {
	for range n {
		best := -1
		for i, p := range m.parts {
			if p.holder == from && (best < 0 || p.enter < m.parts[best].enter) {
				best = i
			}
		}
		m.parts[best].holder = to
	}
}

// pledges returns the deeds of the pledges in force.
func (m *model) pledges() []api.Deed {
	var l []api.Deed
	for _, x := range m.possible {
		ends := func(y api.Deed) bool {
			return (y.Kind == api.DeedRedeem || y.Kind == api.DeedSeize) && y.Of == x.Id
		}
		if x.Kind == api.DeedPledge && !slices.ContainsFunc(m.possible, ends) {
			l = append(l, x)
		}
	}
	return l
}

// leases returns the deeds of the leases in force on a day.
func (m *model) leases(day int) []api.Deed {
	var l []api.Deed
	for _, x := range m.possible {
		if x.Kind == api.DeedLease && x.Day <= day && day <= x.End {
			l = append(l, x)
		}
	}
	return l
}

func (m *model) account(owner, day int) api.Account {
	a := api.Account{Owner: owner}
	for _, p := range m.parts {
		if p.holder == owner {
			a.Holds++
		}
	}
	for _, x := range m.pledges() {
		if x.From == owner {
			a.Pledged += x.Parts
		}
	}
	for _, x := range m.leases(day) {
		if x.From == owner {
			a.Out += x.Parts
		}
		if x.To == owner {
			a.In += x.Parts
		}
	}
	return a
}

func (m *model) free(owner, day int) int {
	a := m.account(owner, day)
	return a.Holds - a.Pledged - a.Out
}

func (m *model) uses(owner, day int) int {
	a := m.account(owner, day)
	return a.Holds - a.Out + a.In
}

// accounts returns the accounts in which something is not 0.
func (m *model) accounts(day int) []api.Account {
	var l []api.Account
	for owner := 1; owner <= api.MaxOwner; owner++ {
		if a := m.account(owner, day); a != (api.Account{Owner: owner}) {
			l = append(l, a)
		}
	}
	return l
}

// source returns from which DeedEnters somebody's parts come, and how many from each.
func (m *model) source(owner int) ([]int, []int) {
	var enters, numbers []int
	for enter := 1; enter <= api.MaxDeeds; enter++ {
		n := 0
		for _, p := range m.parts {
			if p == (part{enter, owner}) {
				n++
			}
		}
		if n > 0 {
			enters, numbers = append(enters, enter), append(numbers, n)
		}
	}
	return enters, numbers
}

// namedBy returns whom a deed names.
func namedBy(l []api.Deed, x api.Deed) []int {
	switch x.Kind {
	case api.DeedEnter:
		return []int{x.To}
	case api.DeedHeirs:
		return append([]int{x.From}, x.Heirs...)
	case api.DeedRedeem, api.DeedSeize:
		return namedBy(l, l[x.Of-1])
	}
	return []int{x.From, x.To}
}

// lineageOf adds to a set what the chapter's words ask for, until there is nothing more to add.
func lineageOf(l []api.Deed, known, day, owner int) []int {
	deeds := countingDeeds(l, known)
	in := make([]bool, len(deeds))
	for i, x := range deeds {
		in[i] = x.Day <= day && slices.Contains(namedBy(l, x), owner)
	}
	for grows := true; grows; {
		grows = false
		for i, x := range deeds {
			for j, y := range deeds {
				common := func(n int) bool { return slices.Contains(namedBy(l, y), n) }
				isPledge := (x.Kind == api.DeedRedeem || x.Kind == api.DeedSeize) && y.Id == x.Of
				if in[i] && !in[j] && (isPledge || j < i && slices.ContainsFunc(namedBy(l, x), common)) {
					in[j], grows = true, true
				}
			}
		}
	}
	var lineage []int
	for i, x := range deeds {
		if in[i] {
			lineage = append(lineage, x.Id)
		}
	}
	slices.Sort(lineage)
	return lineage
}
