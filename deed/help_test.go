package deed_test

import (
	"math/rand/v2"
	"slices"
	"testing"

	"couchant/api"
	"couchant/deed"
)

// read returns the deeds of some lines.
func read(t testing.TB, lines ...string) []api.Deed {
	t.Helper()
	var l []api.Deed
	for _, line := range lines {
		x, e := deed.Read(line)
		if e != api.OK {
			t.Fatalf("Read(%q): error %d", line, e)
		}
		l = append(l, x)
	}
	return l
}

// register returns the register of some lines.
func register(t testing.TB, lines ...string) []api.Deed {
	t.Helper()
	l := read(t, lines...)
	if at, e := deed.Check(l); at != 0 || e != api.OK {
		t.Fatalf("no register: %d, error %d", at, e)
	}
	return l
}

// sample is the register of the chapter's examples.
func sample(t testing.TB) []api.Deed {
	return register(t, "1 0 0 enter 1 5040", "2 0 0 enter 2 10080", "3 5 5 grant 2 1 2520", "4 9 6 lease 1 3 5040 20",
		"5 9 7 pledge 2 4 7000", "6 30 8 grant 2 3 1000", "7 40 void 3", "8 50 25 seize 5")
}

// faulty is a list of deeds that Check refuses, at the index 1, with ErrTime.
func faulty(t testing.TB) []api.Deed {
	return read(t, "1 5 0 enter 1 5040", "2 4 0 enter 2 5040")
}

func random(seed uint64) *rand.Rand { return rand.New(rand.NewPCG(seed, 11)) }

// pick returns one of the items.
func pick[T any](r *rand.Rand, items ...T) T { return items[r.IntN(len(items))] }

// lastDay is behind every Day of a random register but those of MaxDay.
const lastDay = 7

// owners are those who are in random registers.
func owners() []int { return []int{1, 2, 3, 4, 40} }

// randomDeed returns a deed that may stand behind those of a register, or not.
func randomDeed(r *rand.Rand, l []api.Deed) api.Deed {
	x := api.Deed{Id: len(l) + 1, Day: r.IntN(lastDay), Kind: pick(r, api.DeedEnter, api.DeedEnter, api.DeedGrant, api.DeedGrant, api.DeedHeirs, api.DeedLease, api.DeedLease, api.DeedPledge, api.DeedPledge, api.DeedRedeem, api.DeedSeize, api.DeedVoid)}
	if len(l) > 0 {
		x.Known = l[len(l)-1].Known + pick(r, 0, 0, 1, 2)
	}
	all := owners()
	r.Shuffle(len(all), func(i, j int) { all[i], all[j] = all[j], all[i] })
	switch x.Kind {
	case api.DeedEnter:
		x.To, x.Parts = all[0], 1+r.IntN(12)
	case api.DeedGrant, api.DeedPledge:
		x.From, x.To, x.Parts = all[0], all[1], 1+r.IntN(7)
	case api.DeedLease:
		x.From, x.To, x.Parts, x.End = all[0], all[1], 1+r.IntN(7), x.Day+r.IntN(5)
	case api.DeedHeirs:
		x.From = all[0]
		for _, heir := range all[1 : 2+r.IntN(4)] {
			x.Heirs, x.Shares = append(x.Heirs, heir), append(x.Shares, pick(r, 1, 1, 2, 3, 1000))
		}
	default:
		if x.Kind == api.DeedVoid {
			x.Day = 0
		}
		x.Of = 1 + r.IntN(len(l)+1)
	}
	return x
}

// randomRegister returns a register of some deeds with few owners, days and parts, so that its deeds meet.
func randomRegister(r *rand.Rand, size int) []api.Deed {
	var l []api.Deed
	for len(l) < size {
		longer := append(slices.Clone(l), randomDeed(r, l))
		if _, e := deed.Check(longer); e == api.OK {
			l = longer
		}
	}
	return l
}

// lastKnown is the day from which all deeds of a register are known.
func lastKnown(l []api.Deed) int { return l[len(l)-1].Known }

func mustOK(t testing.TB, what string, e api.Errno) {
	t.Helper()
	if e != api.OK {
		t.Fatalf("%s: error %d", what, e)
	}
}

// sameDeeds tells whether two lists have the same deeds.
func sameDeeds(a, b []api.Deed) bool { return slices.EqualFunc(a, b, sameDeed) }

func sameDeed(a, b api.Deed) bool {
	return a.Id == b.Id && a.Day == b.Day && a.Known == b.Known && a.Kind == b.Kind && a.From == b.From && a.To == b.To &&
		a.Parts == b.Parts && a.End == b.End && a.Of == b.Of && slices.Equal(a.Heirs, b.Heirs) && slices.Equal(a.Shares, b.Shares)
}

// ids returns the Ids of deeds.
func ids(l []api.Deed) []int {
	var n []int
	for _, x := range l {
		n = append(n, x.Id)
	}
	return n
}
