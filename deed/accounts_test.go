package deed_test

import (
	"math"
	"slices"
	"testing"

	"couchant/api"
	"couchant/deed"
)

// account is {Owner, Holds, Pledged, Out, In}.
func account(owner, holds, pledged, out, in int) api.Account {
	return api.Account{Owner: owner, Holds: holds, Pledged: pledged, Out: out, In: in}
}

// B3: the chapter's example, day by day.
func TestAccounts(t *testing.T) {
	l := sample(t)
	for _, x := range []struct {
		known, day int
		want       []api.Account
	}{
		{0, -1, nil},
		{-1, 0, nil},
		{0, math.MinInt, nil},
		{math.MinInt, 0, nil},
		{0, 0, []api.Account{account(1, 5040, 0, 0, 0), account(2, 10080, 0, 0, 0)}},
		{5, 4, []api.Account{account(1, 5040, 0, 0, 0), account(2, 10080, 0, 0, 0)}},
		{4, 5, []api.Account{account(1, 5040, 0, 0, 0), account(2, 10080, 0, 0, 0)}},
		{5, 5, []api.Account{account(1, 7560, 0, 0, 0), account(2, 7560, 0, 0, 0)}},
		{9, 6, []api.Account{account(1, 7560, 0, 5040, 0), account(2, 7560, 0, 0, 0), account(3, 0, 0, 0, 5040)}},
		{30, 7, []api.Account{account(1, 7560, 0, 5040, 0), account(2, 7560, 7000, 0, 0), account(3, 0, 0, 0, 5040)}},
		{30, 20, []api.Account{account(1, 7560, 0, 5040, 0), account(2, 7560, 7000, 0, 0), account(3, 0, 0, 0, 5040)}},
		{30, 21, []api.Account{account(1, 7560, 0, 0, 0), account(2, 7560, 7000, 0, 0)}},
		{40, 8, []api.Account{account(1, 5040, 0, 5040, 0), account(2, 9080, 7000, 0, 0), account(3, 1000, 0, 0, 5040)}},
		{50, 24, []api.Account{account(1, 5040, 0, 0, 0), account(2, 9080, 7000, 0, 0), account(3, 1000, 0, 0, 0)}},
		{50, 25, []api.Account{account(1, 5040, 0, 0, 0), account(2, 2080, 0, 0, 0), account(3, 1000, 0, 0, 0), account(4, 7000, 0, 0, 0)}},
		{math.MaxInt, math.MaxInt, []api.Account{account(1, 5040, 0, 0, 0), account(2, 2080, 0, 0, 0), account(3, 1000, 0, 0, 0), account(4, 7000, 0, 0, 0)}},
	} {
		if got := deed.Accounts(l, x.known, x.day); !slices.Equal(got, x.want) {
			t.Errorf("Accounts by %d on %d: %v", x.known, x.day, got)
		}
		total := 0
		for owner := -1; owner <= api.MaxOwner+1; owner++ {
			want := api.Account{}
			if 1 <= owner && owner <= api.MaxOwner {
				want.Owner = owner
			}
			for _, a := range x.want {
				if a.Owner == owner {
					want = a
					total += a.Holds
				}
			}
			if got := deed.AccountOf(l, x.known, x.day, owner); got != want {
				t.Errorf("AccountOf(%d) by %d on %d: %v", owner, x.known, x.day, got)
			}
			if got := deed.Uses(l, x.known, x.day, owner); got != want.Holds-want.Out+want.In {
				t.Errorf("Uses of %d by %d on %d: %d", owner, x.known, x.day, got)
			}
			if got := deed.Free(l, x.known, x.day, owner); got != want.Holds-want.Pledged-want.Out {
				t.Errorf("Free of %d by %d on %d: %d", owner, x.known, x.day, got)
			}
		}
		if got := deed.Total(l, x.known, x.day); got != total {
			t.Errorf("Total by %d on %d: %d", x.known, x.day, got)
		}
	}
}

// B3: what deeds of each kind do.
func TestWhatDeedsDo(t *testing.T) {
	for _, x := range []struct {
		name  string
		lines []string
		day   int
		want  []api.Account
	}{
		{"entered twice", []string{"1 0 0 enter 1 5", "2 0 1 enter 1 7"}, 1, []api.Account{account(1, 12, 0, 0, 0)}},
		{"nothing left", []string{"1 0 0 enter 1 5", "2 0 0 grant 1 40 5"}, 0, []api.Account{account(40, 5, 0, 0, 0)}},
		{"in the order of the owners", []string{"1 0 0 enter 40 5", "2 0 0 enter 9 4", "3 0 0 enter 10 3", "4 0 0 enter 1 2"}, 0, []api.Account{account(1, 2, 0, 0, 0), account(9, 4, 0, 0, 0), account(10, 3, 0, 0, 0), account(40, 5, 0, 0, 0)}},
		{"heirs", []string{"1 0 0 enter 1 10", "2 0 0 heirs 1 2 1 3 1 4 1"}, 0, []api.Account{account(2, 4, 0, 0, 0), account(3, 3, 0, 0, 0), account(4, 3, 0, 0, 0)}},
		{"heirs in another order", []string{"1 0 0 enter 1 10", "2 0 0 heirs 1 4 1 3 1 2 1"}, 0, []api.Account{account(2, 3, 0, 0, 0), account(3, 3, 0, 0, 0), account(4, 4, 0, 0, 0)}},
		{"heirs with shares", []string{"1 0 0 enter 1 7", "2 0 0 heirs 1 2 1 3 5"}, 0, []api.Account{account(2, 1, 0, 0, 0), account(3, 6, 0, 0, 0)}},
		{"heirs get what is free", []string{"1 0 0 enter 1 10", "2 0 0 lease 1 5 2 8", "3 0 0 pledge 1 6 3", "4 0 0 enter 2 1", "5 0 8 heirs 1 2 1"}, 8, []api.Account{account(1, 5, 3, 2, 0), account(2, 6, 0, 0, 0), account(5, 0, 0, 0, 2)}},
		{"heirs behind a lease", []string{"1 0 0 enter 1 10", "2 0 0 lease 1 5 2 8", "3 0 9 heirs 1 2 1"}, 9, []api.Account{account(2, 10, 0, 0, 0)}},
		{"many parts among ten heirs", []string{"1 0 0 enter 1 1000000000", "2 0 0 heirs 1 2 1000 3 1000 4 1000 5 1000 6 1000 7 1000 8 1000 9 1000 10 1000 11 999"}, 0, []api.Account{account(2, 100010001, 0, 0, 0), account(3, 100010001, 0, 0, 0), account(4, 100010001, 0, 0, 0), account(5, 100010001, 0, 0, 0), account(6, 100010001, 0, 0, 0), account(7, 100010001, 0, 0, 0), account(8, 100010001, 0, 0, 0), account(9, 100010001, 0, 0, 0), account(10, 100010001, 0, 0, 0), account(11, 99909991, 0, 0, 0)}},
		{"a lease of one day", []string{"1 0 0 enter 1 5", "2 0 3 lease 1 2 4 3"}, 3, []api.Account{account(1, 5, 0, 4, 0), account(2, 0, 0, 0, 4)}},
		{"the day before it", []string{"1 0 0 enter 1 5", "2 0 3 lease 1 2 4 3"}, 2, []api.Account{account(1, 5, 0, 0, 0)}},
		{"the day behind it", []string{"1 0 0 enter 1 5", "2 0 3 lease 1 2 4 3"}, 4, []api.Account{account(1, 5, 0, 0, 0)}},
		{"leases there and back", []string{"1 0 0 enter 1 5", "2 0 0 enter 2 5", "3 0 0 lease 1 2 4 9", "4 0 0 lease 2 1 3 8", "5 0 0 lease 1 2 1 7"}, 7, []api.Account{account(1, 5, 0, 5, 3), account(2, 5, 0, 3, 5)}},
		{"some of them over", []string{"1 0 0 enter 1 5", "2 0 0 enter 2 5", "3 0 0 lease 1 2 4 9", "4 0 0 lease 2 1 3 8", "5 0 0 lease 1 2 1 7"}, 8, []api.Account{account(1, 5, 0, 4, 3), account(2, 5, 0, 3, 4)}},
		{"who leases may part with the rest", []string{"1 0 0 enter 1 5", "2 0 0 lease 1 2 4 9", "3 0 0 grant 1 3 1"}, 0, []api.Account{account(1, 4, 0, 4, 0), account(2, 0, 0, 0, 4), account(3, 1, 0, 0, 0)}},
		{"a lease on the last day", []string{"1 0 0 enter 1 5", "2 0 100000 lease 1 2 4 100000"}, 100000, []api.Account{account(1, 5, 0, 4, 0), account(2, 0, 0, 0, 4)}},
		{"the day behind the last day", []string{"1 0 0 enter 1 5", "2 0 100000 lease 1 2 4 100000"}, 100001, []api.Account{account(1, 5, 0, 0, 0)}},
		{"pledges", []string{"1 0 0 enter 1 5", "2 0 0 pledge 1 2 2", "3 0 0 pledge 1 3 3"}, 0, []api.Account{account(1, 5, 5, 0, 0)}},
		{"one redeemed", []string{"1 0 0 enter 1 5", "2 0 0 pledge 1 2 2", "3 0 0 pledge 1 3 3", "4 0 0 redeem 2"}, 0, []api.Account{account(1, 5, 3, 0, 0)}},
		{"one seized", []string{"1 0 0 enter 1 5", "2 0 0 pledge 1 2 2", "3 0 0 pledge 1 3 3", "4 0 0 seize 3"}, 0, []api.Account{account(1, 2, 2, 0, 0), account(3, 3, 0, 0, 0)}},
		{"seized while the rest is leased out", []string{"1 0 0 enter 1 5", "2 0 0 pledge 1 2 2", "3 0 0 lease 1 3 3 9", "4 0 0 seize 2"}, 0, []api.Account{account(1, 3, 0, 3, 0), account(2, 2, 0, 0, 0), account(3, 0, 0, 0, 3)}},
		{"redeemed before its time", []string{"1 0 0 enter 1 5", "2 0 3 pledge 1 2 2", "3 0 4 redeem 2"}, 3, []api.Account{account(1, 5, 2, 0, 0)}},
		{"before the deeds of the day", []string{"1 0 4 enter 1 5"}, 3, nil},
		{"an idle deed", []string{"1 0 4 enter 1 5", "2 0 4 grant 1 2 6", "3 0 4 lease 1 2 6 9", "4 0 4 pledge 1 2 6"}, 4, []api.Account{account(1, 5, 0, 0, 0)}},
		{"a deed withdrawn", []string{"1 0 4 enter 1 5", "2 0 4 grant 1 2 4", "3 0 4 grant 2 3 4", "4 0 void 2"}, 4, []api.Account{account(1, 5, 0, 0, 0)}},
	} {
		l := register(t, x.lines...)
		if got := deed.Accounts(l, 0, x.day); !slices.Equal(got, x.want) {
			t.Errorf("%s: %v", x.name, got)
		}
	}
}

// B4: the chapter's examples.
func TestUsesFreeTotal(t *testing.T) {
	l := sample(t)
	for _, x := range []struct{ known, day, owner, uses, free int }{
		{30, 7, 1, 2520, 2520}, {30, 7, 2, 7560, 560}, {30, 7, 3, 5040, 0}, {30, 7, 4, 0, 0}, {30, 21, 1, 7560, 7560}, {40, 8, 2, 9080, 2080},
		{30, 7, 0, 0, 0}, {30, 7, 41, 0, 0}, {30, 7, -1, 0, 0}, {30, 7, math.MinInt, 0, 0}, {30, 7, math.MaxInt, 0, 0},
	} {
		if uses, free := deed.Uses(l, x.known, x.day, x.owner), deed.Free(l, x.known, x.day, x.owner); uses != x.uses || free != x.free {
			t.Errorf("%d by %d on %d: Uses %d, Free %d", x.owner, x.known, x.day, uses, free)
		}
	}
	for _, x := range []struct{ known, day, want int }{{50, 0, 15120}, {50, 30, 15120}, {-1, 0, 0}, {50, -1, 0}} {
		if got := deed.Total(l, x.known, x.day); got != x.want {
			t.Errorf("Total by %d on %d: %d", x.known, x.day, got)
		}
	}
	if got := deed.Total(register(t, "1 0 0 enter 1 400000000", "2 0 1 enter 2 600000000", "3 9 void 1"), 8, 1); got != 1000000000 {
		t.Errorf("Total of all parts: %d", got)
	}
}

// B5.
func TestLeasesAndPledges(t *testing.T) {
	l := sample(t)
	lease, pledge := api.Lease{Deed: 4, From: 1, To: 3, Parts: 5040, End: 20}, api.Pledge{Deed: 5, From: 2, To: 4, Parts: 7000}
	for _, x := range []struct {
		known, day      int
		leased, pledged bool
	}{
		{8, 20, false, false}, {9, 5, false, false}, {9, 6, true, false}, {9, 7, true, true}, {50, 20, true, true}, {50, 21, false, true},
		{50, 24, false, true}, {50, 25, false, false}, {49, 25, false, true}, {50, math.MaxInt, false, false}, {50, math.MinInt, false, false},
	} {
		var leases []api.Lease
		var pledges []api.Pledge
		if x.leased {
			leases = append(leases, lease)
		}
		if x.pledged {
			pledges = append(pledges, pledge)
		}
		if got := deed.Leases(l, x.known, x.day); !slices.Equal(got, leases) {
			t.Errorf("Leases by %d on %d: %v", x.known, x.day, got)
		}
		if got := deed.Pledges(l, x.known, x.day); !slices.Equal(got, pledges) {
			t.Errorf("Pledges by %d on %d: %v", x.known, x.day, got)
		}
	}
}

// B5: the order, and idle deeds.
func TestLeasesAndPledgesInOrder(t *testing.T) {
	l := register(t, "1 0 0 enter 1 50", "2 0 9 lease 1 2 1 9", "3 0 8 lease 1 3 2 9", "4 0 9 pledge 1 2 3", "5 0 7 lease 1 4 4 9", "6 0 6 pledge 1 3 5",
		"7 0 9 lease 1 2 50 9", "8 0 9 pledge 1 2 50", "9 0 8 pledge 1 4 6", "10 0 9 redeem 9")
	leases := []api.Lease{{Deed: 2, From: 1, To: 2, Parts: 1, End: 9}, {Deed: 3, From: 1, To: 3, Parts: 2, End: 9}, {Deed: 5, From: 1, To: 4, Parts: 4, End: 9}}
	pledges := []api.Pledge{{Deed: 4, From: 1, To: 2, Parts: 3}, {Deed: 6, From: 1, To: 3, Parts: 5}}
	if got := deed.Leases(l, 0, 9); !slices.Equal(got, leases) {
		t.Errorf("Leases: %v", got)
	}
	if got := deed.Pledges(l, 0, 9); !slices.Equal(got, pledges) {
		t.Errorf("Pledges: %v", got)
	}
	if got := deed.Pledges(l, 0, 8); !slices.Equal(got, []api.Pledge{pledges[1], {Deed: 9, From: 1, To: 4, Parts: 6}}) {
		t.Errorf("Pledges the day before: %v", got)
	}
}

// B8.
func TestTouched(t *testing.T) {
	l := sample(t)
	for _, x := range []struct {
		from, to, day int
		want          []int
	}{
		{30, 40, 8, []int{1, 2, 3}},
		{40, 30, 8, []int{1, 2, 3}},
		{30, 30, 8, nil},
		{0, 5, 4, nil},
		{0, 5, 5, []int{1, 2}},
		{5, 9, 6, []int{1, 3}},
		{5, 9, 21, nil},   // the lease is over, and a pledge may be used
		{40, 50, 24, nil}, // the seizure is not done yet
		{40, 50, 25, []int{2, 4}},
		{-1, 0, 0, []int{1, 2}},
		{math.MinInt, math.MaxInt, math.MaxInt, []int{1, 2, 3, 4}},
		{0, 50, -1, nil},
	} {
		if got := deed.Touched(l, x.from, x.to, x.day); !slices.Equal(got, x.want) {
			t.Errorf("from %d to %d on %d: %v", x.from, x.to, x.day, got)
		}
	}
	last := register(t, "1 0 0 enter 40 5", "2 0 0 enter 9 5", "3 0 0 enter 1 5", "4 1 0 grant 9 40 5", "5 2 0 lease 1 2 3 4", "6 2 0 lease 2 1 3 4", "7 3 0 enter 2 3")
	for known, want := range map[int][]int{0: nil, 1: {9, 40}, 2: {1, 2, 9, 40}, 3: {1, 2, 9, 40}} {
		if got := deed.Touched(last, 0, known, 0); !slices.Equal(got, want) {
			t.Errorf("to %d: %v", known, got)
		}
	}
	if got := deed.Touched(faulty(t), -1, 9, 9); len(got) > 0 {
		t.Errorf("of no register: %v", got)
	}
}
