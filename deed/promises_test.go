package deed_test

import (
	"slices"
	"testing"

	"couchant/api"
	"couchant/deed"
)

// everyDay calls a function for random registers, days of knowledge and days.
func everyDay(t *testing.T, seed uint64, times int, check func(l []api.Deed, known, day int)) {
	t.Helper()
	r := random(seed)
	for range times {
		l := randomRegister(r, 1+r.IntN(30))
		known := pick(r, lastKnown(l), lastKnown(l), r.IntN(lastKnown(l)+1))
		for day := -1; day < lastDay+5; day++ {
			check(l, known, day)
		}
		if t.Failed() {
			return
		}
	}
}

// B2 to B5, B7 and B9, against the model.
func TestAgainstModel(t *testing.T) {
	everyDay(t, 21, 250, func(l []api.Deed, known, day int) {
		counting := countingDeeds(l, known)
		m := doneOn(counting, day)
		if got := deed.Counting(l, known); !sameDeeds(got, counting) {
			t.Errorf("Counting(%v, %d): %v", l, known, got)
		}
		if got, want := deed.Idle(l, known), doneOn(counting, api.MaxDay).idle; !slices.Equal(got, want) {
			t.Errorf("Idle(%v, %d): %v, want %v", l, known, got, want)
		}
		if got, want := deed.Accounts(l, known, day), m.accounts(day); !slices.Equal(got, want) {
			t.Errorf("Accounts(%v, %d, %d): %v, want %v", l, known, day, got, want)
		}
		var leases []api.Lease
		for _, x := range m.leases(day) {
			leases = append(leases, api.Lease{Deed: x.Id, From: x.From, To: x.To, Parts: x.Parts, End: x.End})
		}
		slices.SortFunc(leases, func(a, b api.Lease) int { return a.Deed - b.Deed })
		if got := deed.Leases(l, known, day); !slices.Equal(got, leases) {
			t.Errorf("Leases(%v, %d, %d): %v, want %v", l, known, day, got, leases)
		}
		var pledges []api.Pledge
		for _, x := range m.pledges() {
			pledges = append(pledges, api.Pledge{Deed: x.Id, From: x.From, To: x.To, Parts: x.Parts})
		}
		slices.SortFunc(pledges, func(a, b api.Pledge) int { return a.Deed - b.Deed })
		if got := deed.Pledges(l, known, day); !slices.Equal(got, pledges) {
			t.Errorf("Pledges(%v, %d, %d): %v, want %v", l, known, day, got, pledges)
		}
		for _, owner := range owners() {
			checkOwner(t, l, known, day, owner, m)
		}
	})
}

// checkOwner compares what is told of an owner with the model.
func checkOwner(t *testing.T, l []api.Deed, known, day, owner int, m *model) {
	t.Helper()
	if got, want := deed.AccountOf(l, known, day, owner), m.account(owner, day); got != want {
		t.Errorf("AccountOf(%v, %d, %d, %d): %v, want %v", l, known, day, owner, got, want)
	}
	if got, want := deed.Uses(l, known, day, owner), m.uses(owner, day); got != want {
		t.Errorf("Uses(%v, %d, %d, %d): %d, want %d", l, known, day, owner, got, want)
	}
	if got, want := deed.Free(l, known, day, owner), m.free(owner, day); got != want {
		t.Errorf("Free(%v, %d, %d, %d): %d, want %d", l, known, day, owner, got, want)
	}
	enters, parts := deed.Source(l, known, day, owner)
	if wantEnters, wantParts := m.source(owner); !slices.Equal(enters, wantEnters) || !slices.Equal(parts, wantParts) {
		t.Errorf("Source(%v, %d, %d, %d): %v, %v, want %v, %v", l, known, day, owner, enters, parts, wantEnters, wantParts)
	}
	var moves []int
	for _, x := range m.possible {
		if slices.Contains(namedBy(l, x), owner) {
			moves = append(moves, x.Id)
		}
	}
	slices.Sort(moves)
	if got := deed.Moves(l, known, day, owner); !slices.Equal(got, moves) {
		t.Errorf("Moves(%v, %d, %d, %d): %v, want %v", l, known, day, owner, got, moves)
	}
	if got, want := deed.Lineage(l, known, day, owner), lineageOf(l, known, day, owner); !slices.Equal(got, want) {
		t.Errorf("Lineage(%v, %d, %d, %d): %v, want %v", l, known, day, owner, got, want)
	}
}

// B6, B7 (Only) and B8, against the model.
func TestQuestionsAgainstModel(t *testing.T) {
	r := random(22)
	poor := 0
	everyDay(t, 23, 100, func(l []api.Deed, known, day int) {
		var some []int
		var deeds []api.Deed
		for _, x := range countingDeeds(l, known) {
			if r.IntN(4) > 0 {
				some, deeds = append(some, x.Id), append(deeds, x)
			}
		}
		if got, want := deed.Only(l, known, day, some), doneOn(deeds, day).accounts(day); !slices.Equal(got, want) {
			t.Errorf("Only(%v, %d, %d, %v): %v, want %v", l, known, day, some, got, want)
		}
		from := r.IntN(lastKnown(l) + 1)
		one, two := doneOn(countingDeeds(l, from), day), doneOn(countingDeeds(l, known), day)
		var touched []int
		for _, owner := range owners() {
			if one.uses(owner, day) != two.uses(owner, day) {
				touched = append(touched, owner)
			}
		}
		if got := deed.Touched(l, from, known, day); !slices.Equal(got, touched) {
			t.Errorf("Touched(%v, %d, %d, %d): %v, want %v", l, from, known, day, got, touched)
		}
		x := randomDeed(r, l)
		longer := append(slices.Clone(l), x)
		_, want := deed.Check(longer)
		if want == api.OK && slices.Contains(doneOn(countingDeeds(longer, known), api.MaxDay).idle, x.Id) {
			want = api.ErrPoor
			poor++
		}
		if got := deed.Possible(l, known, x); got != want {
			t.Errorf("Possible(%v, %d, %v): error %d, want %d", l, known, x, got, want)
		}
	})
	if poor < 100 {
		t.Errorf("only %d deeds were not possible", poor)
	}
}

// P2.2 and T2 (sums).
func TestSums(t *testing.T) {
	everyDay(t, 24, 200, func(l []api.Deed, known, day int) {
		entered, used := 0, 0
		for _, x := range countingDeeds(l, known) {
			if x.Kind == api.DeedEnter && x.Day <= day {
				entered += x.Parts
			}
		}
		for _, owner := range owners() {
			used += deed.Uses(l, known, day, owner)
			if free := deed.Free(l, known, day, owner); free < 0 {
				t.Errorf("%v, %d, %d: %d has %d free", l, known, day, owner, free)
			}
		}
		if total := deed.Total(l, known, day); total != entered || used != entered {
			t.Errorf("%v, %d, %d: %d are held, %d used, %d entered", l, known, day, total, used, entered)
		}
	})
}

// T1: what heirs get adds up to what was free, and each share differs from the exact one by less than one part.
func TestHeirsGetTheirShares(t *testing.T) {
	r := random(33)
	divided := 0
	for range 1500 {
		l := randomRegister(r, 1+r.IntN(20))
		x := randomDeed(r, l)
		for x.Kind != api.DeedHeirs {
			x = randomDeed(r, l)
		}
		x.Known, x.Day = lastKnown(l), lastDay
		if deed.Possible(l, x.Known, x) != api.OK {
			continue
		}
		divided++
		longer, e := deed.Append(l, x)
		mustOK(t, "Append", e)
		free, sum, all := deed.Free(l, x.Known, lastDay, x.From), 0, 0
		for _, n := range x.Shares {
			sum += n
		}
		for i, heir := range x.Heirs {
			gets := deed.AccountOf(longer, x.Known, lastDay, heir).Holds - deed.AccountOf(l, x.Known, lastDay, heir).Holds
			all += gets
			if off := gets*sum - free*x.Shares[i]; off <= -sum || off >= sum {
				t.Errorf("%v, %v: of %d the heir %d gets %d", l, x, free, heir, gets)
			}
		}
		if left := deed.Free(longer, x.Known, lastDay, x.From); all != free || left != 0 {
			t.Errorf("%v, %v: of %d the heirs get %d, and %d are left", l, x, free, all, left)
		}
	}
	if divided < 200 {
		t.Errorf("only %d were divided", divided)
	}
}

// ofOwner returns an account out of a list.
func ofOwner(l []api.Account, owner int) api.Account {
	for _, a := range l {
		if a.Owner == owner {
			return a
		}
	}
	return api.Account{Owner: owner}
}

// withdrawn returns a register with a DeedVoid of a deed.
func withdrawn(t *testing.T, l []api.Deed, id int) []api.Deed {
	t.Helper()
	longer, e := deed.Append(l, api.Deed{Id: len(l) + 1, Known: lastKnown(l), Kind: api.DeedVoid, Of: id})
	mustOK(t, "Append of a DeedVoid", e)
	return longer
}

// P2.3 and T2 (lineage): figures rest on the deeds of their lineage alone.
func TestLineageSuffices(t *testing.T) {
	outside := 0
	everyDay(t, 25, 60, func(l []api.Deed, _, day int) {
		known := lastKnown(l)
		counting := ids(countingDeeds(l, known))
		for _, owner := range owners() {
			lineage := deed.Lineage(l, known, day, owner)
			want := deed.AccountOf(l, known, day, owner)
			if got := ofOwner(deed.Only(l, known, day, lineage), owner); got != want {
				t.Errorf("%v, %d, %d: %d has %v, by %v alone %v", l, known, day, owner, want, lineage, got)
			}
			for _, id := range counting {
				if slices.Contains(lineage, id) {
					continue
				}
				outside++
				longer := withdrawn(t, l, id)
				if got := deed.AccountOf(longer, known, day, owner); got != want {
					t.Errorf("%v, %d, %d: %d has %v, with %d withdrawn %v", l, known, day, owner, want, id, got)
				}
			}
		}
	})
	if outside < 1000 {
		t.Errorf("only %d deeds were outside a lineage", outside)
	}
}

// P2.3: what becomes known changes only figures in whose lineage it is, or was.
func TestWhatBecomesKnown(t *testing.T) {
	r := random(26)
	changes, stays := 0, 0
	everyDay(t, 27, 200, func(l []api.Deed, _, day int) {
		known := lastKnown(l)
		x := randomDeed(r, l)
		x.Known = known + 1
		longer, e := deed.Append(l, x)
		if e != api.OK {
			return
		}
		touched := deed.Touched(longer, known, known+1, day)
		for _, owner := range owners() {
			reached := slices.Contains(deed.Lineage(longer, known+1, day, owner), x.Id) ||
				x.Kind == api.DeedVoid && slices.Contains(deed.Lineage(longer, known, day, owner), x.Of)
			if slices.Contains(touched, owner) {
				changes++
			} else if !reached {
				stays++
			}
			if slices.Contains(touched, owner) && !reached {
				t.Errorf("%v, %d, %v: it is in no lineage of %d, but touches them", l, day, x, owner)
			}
		}
	})
	if changes < 200 || stays < 200 {
		t.Errorf("only %d changes, %d that are not reached", changes, stays)
	}
}

// shuffled returns a register with the same deeds under other Ids, in another order but for those of one Day, known on other days.
func shuffled(t *testing.T, l []api.Deed, choose func(n int) int) []api.Deed {
	t.Helper()
	var other []api.Deed
	renamed := map[int]int{}
	left := slices.Clone(l)
	for len(left) > 0 {
		var ready []int
		for i, x := range left {
			sameDay := func(y api.Deed) bool {
				return y.Kind != api.DeedVoid && x.Kind != api.DeedVoid && y.Day == x.Day
			}
			if (x.Of == 0 || renamed[x.Of] > 0) && !slices.ContainsFunc(left[:i], sameDay) {
				ready = append(ready, i)
			}
		}
		i := ready[choose(len(ready))]
		x := left[i]
		left = slices.Delete(left, i, i+1)
		renamed[x.Id] = len(other) + 1
		x.Id, x.Known, x.Of = len(other)+1, 3*len(other), renamed[x.Of]
		other = append(other, x)
	}
	if at, e := deed.Check(other); e != api.OK {
		t.Fatalf("shuffled %v: %v, %d, error %d", l, other, at, e)
	}
	return other
}

// P2.4.
func TestLateDeeds(t *testing.T) {
	r := random(28)
	everyDay(t, 29, 150, func(l []api.Deed, _, day int) {
		other := shuffled(t, l, r.IntN)
		one, two := deed.Accounts(l, lastKnown(l), day), deed.Accounts(other, lastKnown(other), day)
		if !slices.Equal(one, two) {
			t.Errorf("on %d: %v by %v, %v by %v", day, one, l, two, other)
		}
	})
}

// figures are all that is told of a day but the lineage, to which a pledge with a greater Day belongs if it is redeemed ahead of its time.
type figures struct {
	accounts      []api.Account
	leases        []api.Lease
	pledges       []api.Pledge
	moves, source [][]int
}

func figuresOn(l []api.Deed, known, day int) figures {
	x := figures{accounts: deed.Accounts(l, known, day), leases: deed.Leases(l, known, day), pledges: deed.Pledges(l, known, day)}
	for _, owner := range owners() {
		enters, parts := deed.Source(l, known, day, owner)
		x.moves = append(x.moves, deed.Moves(l, known, day, owner))
		x.source = append(x.source, enters, parts)
	}
	return x
}

func sameFigures(x, y figures) bool {
	return slices.Equal(x.accounts, y.accounts) && slices.Equal(x.leases, y.leases) && slices.Equal(x.pledges, y.pledges) &&
		slices.EqualFunc(x.moves, y.moves, slices.Equal) && slices.EqualFunc(x.source, y.source, slices.Equal)
}

// P2.5: deeds with greater Days, and what comes to be known later.
func TestDays(t *testing.T) {
	r := random(30)
	everyDay(t, 31, 100, func(l []api.Deed, known, day int) {
		want := figuresOn(l, known, day)
		var before []api.Deed
		for _, x := range l {
			if x.Known <= known {
				before = append(before, x)
			}
		}
		if got := figuresOn(before, known, day); !sameFigures(got, want) {
			t.Errorf("%v, %d, %d: %v, by the deeds that are known %v", l, known, day, want, got)
		}
		if !sameDeeds(deed.Counting(l, known), deed.Counting(before, known)) || !slices.Equal(deed.Idle(l, known), deed.Idle(before, known)) {
			t.Errorf("%v, %d: the counting or idle deeds depend on what is known later", l, known)
		}
		for range 4 {
			x := randomDeed(r, l)
			if longer, e := deed.Append(l, x); e == api.OK && x.Day > day {
				if got := figuresOn(longer, lastKnown(longer), day); !sameFigures(got, figuresOn(l, lastKnown(longer), day)) {
					t.Errorf("%v, %d: a deed with a greater Day (%v) changes it to %v", l, day, x, got)
				}
			}
		}
	})
}

// P2.6 and P2.7.
func TestSourcesLeasesPledges(t *testing.T) {
	everyDay(t, 32, 150, func(l []api.Deed, known, day int) {
		from := map[int]int{}
		all := api.Account{}
		out, in, pledged := map[int]int{}, map[int]int{}, map[int]int{}
		leased := 0
		for _, x := range deed.Leases(l, known, day) {
			out[x.From] += x.Parts
			in[x.To] += x.Parts
			leased += x.Parts
		}
		for _, x := range deed.Pledges(l, known, day) {
			pledged[x.From] += x.Parts
		}
		for _, owner := range owners() {
			enters, parts := deed.Source(l, known, day, owner)
			held := 0
			for i, enter := range enters {
				from[enter] += parts[i]
				held += parts[i]
			}
			a := deed.AccountOf(l, known, day, owner)
			all.Out += a.Out
			all.In += a.In
			if held != a.Holds || a.Out != out[owner] || a.In != in[owner] || a.Pledged != pledged[owner] || a.Out+a.Pledged > a.Holds {
				t.Errorf("%v, %d, %d: %v, held %d, out %d, in %d, pledged %d", l, known, day, a, held, out[owner], in[owner], pledged[owner])
			}
		}
		if all.Out != leased || all.In != leased {
			t.Errorf("%v, %d, %d: %d out, %d in, %d leased", l, known, day, all.Out, all.In, leased)
		}
		counting := countingDeeds(l, known)
		for _, x := range l {
			want := 0
			if x.Kind == api.DeedEnter && x.Day <= day && slices.Contains(ids(counting), x.Id) {
				want = x.Parts
			}
			if from[x.Id] != want {
				t.Errorf("%v, %d, %d: %d parts come from %d", l, known, day, from[x.Id], x.Id)
			}
		}
	})
}
