package deed_test

import (
	"math"
	"slices"
	"testing"

	"couchant/api"
	"couchant/deed"
)

// B7.
func TestLineage(t *testing.T) {
	l := sample(t)
	chain := []string{"1 0 0 enter 1 5", "2 0 0 enter 2 5", "3 0 1 grant 1 3 1", "4 0 2 grant 2 4 1", "5 0 3 grant 3 4 1", "6 0 3 grant 2 5 1"}
	pledged := []string{"1 0 0 enter 1 5", "2 0 1 enter 1 5", "3 0 2 pledge 1 2 5", "4 0 5 redeem 3", "5 0 9 enter 3 1"}
	for _, x := range []struct {
		name              string
		l                 []api.Deed
		known, day, owner int
		want              []int
	}{
		{"the example", l, 30, 7, 3, []int{1, 2, 3, 4}},
		{"a day before the lease", l, 30, 5, 3, nil},
		{"the day of the grant", l, 30, 8, 3, []int{1, 2, 3, 4, 5, 6}},
		{"the grant withdrawn", l, 40, 7, 3, []int{1, 4}},
		{"who enters", l, 40, 7, 2, []int{2, 5}},
		{"a pledge", l, 50, 24, 4, []int{2, 5}},
		{"a seizure, and what came before it", l, 50, 25, 4, []int{1, 2, 4, 5, 6, 8}},
		{"nobody known", l, -1, 25, 4, nil},
		{"before all", l, 50, -1, 1, nil},
		{"behind all", l, math.MaxInt, math.MaxInt, 1, []int{1, 4}},
		{"the owner 0", l, 50, 30, 0, nil},
		{"the owner 41", l, 50, 30, 41, nil},
		{"the owner -1", l, 50, 30, -1, nil},
		{"an owner of whom nothing is said", l, 50, 30, 5, nil},
		{"no register", faulty(t), 9, 9, 1, nil},

		{"through two hands", register(t, chain...), 0, 3, 4, []int{1, 2, 3, 4, 5}},
		{"through one", register(t, chain...), 0, 2, 4, []int{2, 4}},
		{"what is done behind it does not count", register(t, chain...), 0, 9, 3, []int{1, 2, 3, 4, 5}},
		{"what names them only later", register(t, chain...), 0, 9, 1, []int{1, 3}},
		{"idle deeds belong to it", register(t, "1 0 0 grant 1 2 5", "2 0 1 enter 2 1"), 0, 1, 2, []int{1, 2}},
		{"heirs", register(t, "1 0 0 enter 1 5", "2 0 0 enter 4 5", "3 0 0 enter 5 5", "4 0 1 heirs 1 3 1 4 1"), 0, 1, 3, []int{1, 2, 4}},
		{"who has heirs", register(t, "1 0 0 enter 1 5", "2 0 1 heirs 1 3 1 4 1"), 0, 1, 1, []int{1, 2}},
		{"the last heir", register(t, "1 0 0 enter 1 5", "2 0 1 heirs 1 3 1 40 1"), 0, 1, 40, []int{1, 2}},

		{"the end of a pledge names whom the pledge names", register(t, pledged...), 0, 9, 2, []int{1, 2, 3, 4}},
		{"before the end of a pledge", register(t, pledged...), 0, 4, 2, []int{1, 2, 3}},
		{"a pledge behind its end", register(t, "1 0 9 pledge 1 2 5", "2 0 3 redeem 1", "3 0 8 enter 1 5", "4 0 3 enter 2 1"), 0, 3, 2, []int{1, 2, 3, 4}},
		{"a seizure ahead of its pledge", register(t, "1 0 9 pledge 1 2 5", "2 0 3 seize 1", "3 0 8 enter 1 5", "4 0 3 enter 2 1"), 0, 3, 1, []int{1, 2, 3, 4}},
		{"a pledge withdrawn", register(t, "1 0 1 pledge 1 2 5", "2 0 3 redeem 1", "3 0 0 enter 1 5", "4 0 void 1"), 0, 3, 2, []int{2, 3}},
		{"a pledge with a greater Day", register(t, "1 0 9 pledge 1 2 5", "2 0 3 enter 1 5"), 0, 8, 2, nil},
		{"the order of a day", register(t, "1 0 1 enter 2 5", "2 0 1 grant 1 3 1", "3 0 1 enter 1 5", "4 0 1 grant 2 3 1"), 0, 1, 1, []int{2, 3}},
	} {
		if got := deed.Lineage(x.l, x.known, x.day, x.owner); !slices.Equal(got, x.want) {
			t.Errorf("%s: %v", x.name, got)
		}
	}
}

// B7: a lineage of as many deeds as a register can have.
func TestLineageOfAll(t *testing.T) {
	l := []api.Deed{{Id: 1, Kind: api.DeedEnter, To: 1, Parts: 9}}
	var want []int
	for i := range api.MaxDeeds {
		if i > 0 {
			l = append(l, api.Deed{Id: i + 1, Day: i, Kind: api.DeedGrant, From: 1 + (i-1)%40, To: 1 + i%40, Parts: 9})
		}
		want = append(want, i+1)
	}
	if got := deed.Lineage(l, 0, 399, 40); !slices.Equal(got, want) {
		t.Errorf("Lineage: %v", got)
	}
	if got := deed.Lineage(l, 0, 398, 39); !slices.Equal(got, want[:399]) {
		t.Errorf("Lineage a day before: %v", got)
	}
	if got := deed.Idle(l, 0); len(got) > 0 {
		t.Errorf("Idle: %v", got)
	}
	if enters, parts := deed.Source(l, 0, 399, 40); !slices.Equal(enters, []int{1}) || !slices.Equal(parts, []int{9}) {
		t.Errorf("Source: %v, %v", enters, parts)
	}
}

// B7.
func TestOnly(t *testing.T) {
	l := sample(t)
	for _, x := range []struct {
		name       string
		known, day int
		ids        []int
		want       []api.Account
	}{
		{"none", 50, 30, nil, nil},
		{"all", 50, 30, []int{1, 2, 3, 4, 5, 6, 7, 8}, deed.Accounts(l, 50, 30)},
		{"one that does not count", 50, 30, []int{1, 3}, []api.Account{account(1, 5040, 0, 0, 0)}},
		{"one that does", 39, 30, []int{2, 3}, []api.Account{account(1, 2520, 0, 0, 0), account(2, 7560, 0, 0, 0)}},
		{"one that is not known", 4, 30, []int{2, 3}, []api.Account{account(2, 10080, 0, 0, 0)}},
		{"one whose DeedVoid is left out", 50, 30, []int{2, 3, 4}, []api.Account{account(2, 10080, 0, 0, 0)}},
		{"in any order, and twice", 30, 7, []int{5, 2, 5, 2, 2}, []api.Account{account(2, 10080, 7000, 0, 0)}},
		{"Ids that there are not", 30, 7, []int{math.MinInt, -1, 0, 9, 401, math.MaxInt, 1}, []api.Account{account(1, 5040, 0, 0, 0)}},
		{"an end without its pledge", 50, 30, []int{2, 8}, []api.Account{account(2, 10080, 0, 0, 0)}},
		{"an end with its pledge", 50, 30, []int{2, 5, 8}, []api.Account{account(2, 3080, 0, 0, 0), account(4, 7000, 0, 0, 0)}},
		{"a grant without what was entered", 30, 7, []int{3}, nil},
		{"idle ones become possible", 30, 8, []int{2, 6}, []api.Account{account(2, 9080, 0, 0, 0), account(3, 1000, 0, 0, 0)}},
		{"those that are done by then", 50, 24, []int{2, 5, 8}, []api.Account{account(2, 10080, 7000, 0, 0)}},
		{"a lease that is in force", 50, 20, []int{1, 4}, []api.Account{account(1, 5040, 0, 5040, 0), account(3, 0, 0, 0, 5040)}},
		{"a lease that has ended", 50, 21, []int{1, 4}, []api.Account{account(1, 5040, 0, 0, 0)}},
	} {
		if got := deed.Only(l, x.known, x.day, x.ids); !slices.Equal(got, x.want) {
			t.Errorf("%s: %v", x.name, got)
		}
	}
	if got := deed.Only(faulty(t), 9, 9, []int{1, 2}); len(got) > 0 {
		t.Errorf("of no register: %v", got)
	}
}

// B7.
func TestMoves(t *testing.T) {
	l := sample(t)
	for _, x := range []struct {
		name              string
		l                 []api.Deed
		known, day, owner int
		want              []int
	}{
		{"the example", l, 50, 30, 4, []int{5, 8}},
		{"before the seizure", l, 50, 24, 4, []int{5}},
		{"of whom it is seized", l, 50, 30, 2, []int{2, 5, 6, 8}},
		{"not the idle one", l, 30, 30, 2, []int{2, 3, 5}},
		{"not of who should have got it", l, 30, 30, 3, []int{4}},
		{"leases", l, 30, 6, 1, []int{1, 3, 4}},
		{"leases that have ended", l, 30, 30, 3, []int{4}},
		{"before all", l, 30, -1, 1, nil},
		{"the owner 0", l, 50, 30, 0, nil},
		{"the owner 41", l, 50, 30, 41, nil},
		{"far away", l, math.MaxInt, math.MaxInt, math.MinInt, nil},
		{"ascending, not as done", register(t, "1 0 3 enter 1 5", "2 0 2 enter 1 5", "3 0 1 enter 1 5"), 0, 9, 1, []int{1, 2, 3}},
		{"an heir without a share", register(t, "1 0 0 enter 1 1", "2 0 0 heirs 1 2 1 3 1"), 0, 0, 3, []int{2}},
		{"who has heirs", register(t, "1 0 0 enter 1 1", "2 0 0 heirs 1 2 1 3 1"), 0, 0, 1, []int{1, 2}},
		{"a pledge redeemed", register(t, "1 0 0 enter 1 1", "2 0 0 pledge 1 2 1", "3 0 0 redeem 2", "4 0 0 redeem 2"), 0, 0, 2, []int{2, 3}},
		{"no register", faulty(t), 9, 9, 1, nil},
	} {
		if got := deed.Moves(x.l, x.known, x.day, x.owner); !slices.Equal(got, x.want) {
			t.Errorf("%s: %v", x.name, got)
		}
	}
}

// B9.
func TestSource(t *testing.T) {
	l := sample(t)
	mixed := register(t, "1 0 1 enter 1 5", "2 0 0 enter 1 7", "3 0 1 enter 2 9", "4 0 2 grant 1 2 6", "5 0 3 grant 2 3 8", "6 0 4 enter 4 2", "7 0 5 grant 3 4 8", "8 0 6 heirs 4 5 1 6 2 7 2")
	idle := register(t, "1 0 0 enter 1 5", "2 0 0 lease 1 2 3 9", "3 0 0 pledge 1 2 1", "4 0 0 grant 1 2 2", "5 0 1 seize 3")
	for _, x := range []struct {
		name              string
		l                 []api.Deed
		known, day, owner int
		enters, parts     []int
	}{
		{"the example", l, 50, 30, 4, []int{2}, []int{7000}},
		{"a grant", l, 30, 7, 1, []int{1, 2}, []int{5040, 2520}},
		{"leases change no holder", l, 30, 7, 3, nil, nil},
		{"before all", l, 50, -1, 1, nil, nil},
		{"not known", l, -1, 9, 1, nil, nil},
		{"nobody", l, 50, 30, 0, nil, nil},
		{"the owner 41", l, 50, 30, 41, nil, nil},
		{"no register", faulty(t), 9, 9, 1, nil, nil},
		{"the least Id, not the first Day", mixed, 0, 2, 1, []int{2}, []int{6}},
		{"what went away", mixed, 0, 2, 2, []int{1, 2, 3}, []int{5, 1, 9}},
		{"again the least Ids", mixed, 0, 3, 3, []int{1, 2, 3}, []int{5, 1, 2}},
		{"what is left of them", mixed, 0, 3, 2, []int{3}, []int{7}},
		{"nothing is left", mixed, 0, 5, 3, nil, nil},
		{"added up", mixed, 0, 5, 4, []int{1, 2, 3, 6}, []int{5, 1, 2, 2}},
		{"the first heir", mixed, 0, 6, 5, []int{1}, []int{2}},
		{"the second heir", mixed, 0, 6, 6, []int{1, 2}, []int{3, 1}},
		{"the third heir", mixed, 0, 6, 7, []int{3, 6}, []int{2, 2}},
		{"who had heirs", mixed, 0, 6, 4, nil, nil},
		{"an idle grant", idle, 0, 0, 1, []int{1}, []int{5}},
		{"what is pledged", idle, 0, 0, 2, nil, nil},
		{"seized", idle, 0, 1, 2, []int{1}, []int{1}},
		{"seized away", idle, 0, 1, 1, []int{1}, []int{4}},
		{"withdrawn", register(t, "1 0 0 enter 1 5", "2 0 0 enter 1 6", "3 0 void 1"), 0, 0, 1, []int{2}, []int{6}},
		{"there and back", register(t, "1 0 0 enter 1 5", "2 0 0 enter 2 6", "3 0 1 grant 1 2 3", "4 0 2 grant 2 1 4"), 0, 2, 1, []int{1, 2}, []int{5, 1}},
	} {
		enters, parts := deed.Source(x.l, x.known, x.day, x.owner)
		if !slices.Equal(enters, x.enters) || !slices.Equal(parts, x.parts) {
			t.Errorf("%s: %v, %v", x.name, enters, parts)
		}
	}
}
