package deed_test

import (
	"math"
	"slices"
	"testing"

	"couchant/api"
	"couchant/deed"
)

// wellFormed are deeds of all kinds.
func wellFormed() []api.Deed {
	return []api.Deed{
		{Id: 9, Known: 3, Day: 5, Kind: api.DeedEnter, To: 8, Parts: 5040},
		{Id: 9, Known: 3, Day: 5, Kind: api.DeedGrant, From: 7, To: 8, Parts: 5040},
		{Id: 9, Known: 3, Day: 5, Kind: api.DeedHeirs, From: 7, Heirs: []int{8, 6}, Shares: []int{2, 3}},
		{Id: 9, Known: 3, Day: 5, Kind: api.DeedLease, From: 7, To: 8, Parts: 5040, End: api.MaxDay},
		{Id: 9, Known: 3, Day: 5, Kind: api.DeedPledge, From: 7, To: 8, Parts: 5040},
		{Id: 9, Known: 3, Day: 5, Kind: api.DeedRedeem, Of: 1},
		{Id: 9, Known: 3, Day: 5, Kind: api.DeedSeize, Of: 1},
		{Id: 9, Known: 3, Kind: api.DeedVoid, Of: 1},
	}
}

// span is where a field of a deed has to lie.
type span struct {
	name      string
	at        func(*api.Deed) *int
	low, high int
}

// spans returns where the fields of a well-formed deed may be laid.
func spans(x api.Deed) []span {
	used := func(low, high int, kinds ...uint8) (int, int) {
		if slices.Contains(kinds, x.Kind) {
			return low, high
		}
		return 0, 0
	}
	fromLow, fromHigh := used(1, api.MaxOwner, api.DeedGrant, api.DeedHeirs, api.DeedLease, api.DeedPledge)
	toLow, toHigh := used(1, api.MaxOwner, api.DeedEnter, api.DeedGrant, api.DeedLease, api.DeedPledge)
	partsLow, partsHigh := used(1, 1000000000, api.DeedEnter, api.DeedGrant, api.DeedLease, api.DeedPledge)
	endLow, endHigh := used(x.Day, 100000, api.DeedLease)
	ofLow, ofHigh := used(1, x.Id-1, api.DeedRedeem, api.DeedSeize, api.DeedVoid)
	dayHigh := 100000
	if x.Kind == api.DeedVoid {
		dayHigh = 0
	}
	return []span{
		{"Id", func(x *api.Deed) *int { return &x.Id }, 1 + x.Of, 400},
		{"Known", func(x *api.Deed) *int { return &x.Known }, 0, 100000},
		{"Day", func(x *api.Deed) *int { return &x.Day }, 0, dayHigh},
		{"From", func(x *api.Deed) *int { return &x.From }, fromLow, fromHigh},
		{"To", func(x *api.Deed) *int { return &x.To }, toLow, toHigh},
		{"Parts", func(x *api.Deed) *int { return &x.Parts }, partsLow, partsHigh},
		{"End", func(x *api.Deed) *int { return &x.End }, endLow, endHigh},
		{"Of", func(x *api.Deed) *int { return &x.Of }, ofLow, ofHigh},
	}
}

// B1.
func TestCheckDeedNumbers(t *testing.T) {
	for _, x := range wellFormed() {
		if e := deed.CheckDeed(x); e != api.OK {
			t.Errorf("%+v: error %d", x, e)
		}
		for _, s := range spans(x) {
			for _, n := range []int{s.low, s.high} {
				y := x
				*s.at(&y) = n
				if e := deed.CheckDeed(y); e != api.OK {
					t.Errorf("the kind %d with %s %d: error %d", x.Kind, s.name, n, e)
				}
			}
			for _, n := range []int{s.low - 1, s.high + 1, math.MinInt, math.MaxInt} {
				y := x
				*s.at(&y) = n
				if e := deed.CheckDeed(y); e != api.ErrArg {
					t.Errorf("the kind %d with %s %d: error %d", x.Kind, s.name, n, e)
				}
			}
		}
		for _, kind := range []uint8{0, 9, 10, 16, 128, 255} {
			y := x
			y.Kind = kind
			if e := deed.CheckDeed(y); e != api.ErrArg {
				t.Errorf("%+v: error %d", y, e)
			}
		}
	}
	if e := deed.CheckDeed(api.Deed{}); e != api.ErrArg {
		t.Errorf("a zero deed: error %d", e)
	}
}

// B1.
func TestCheckDeedOwners(t *testing.T) {
	for _, x := range wellFormed() {
		if x.From > 0 && x.To > 0 {
			y := x
			y.To = y.From
			if e := deed.CheckDeed(y); e != api.ErrArg {
				t.Errorf("%+v: error %d", y, e)
			}
		}
		if x.Kind != api.DeedHeirs {
			for _, kin := range [][2][]int{{{1}, {1}}, {{1}, nil}, {nil, {1}}, {{0}, {0}}} {
				x.Heirs, x.Shares = kin[0], kin[1]
				if e := deed.CheckDeed(x); e != api.ErrArg {
					t.Errorf("%+v: error %d", x, e)
				}
			}
			x.Heirs, x.Shares = []int{}, []int{}
			if e := deed.CheckDeed(x); e != api.OK {
				t.Errorf("%+v with empty slices: error %d", x, e)
			}
		}
	}
}

// B1.
func TestCheckDeedHeirs(t *testing.T) {
	ones := func(n int) []int { return slices.Repeat([]int{1}, n) }
	eleven := []int{1, 2, 3, 4, 5, 6, 8, 9, 10, 11, 12}
	for _, x := range []struct {
		name          string
		heirs, shares []int
		want          api.Errno
	}{
		{"one", []int{8}, ones(1), api.OK},
		{"the first and the last owner", []int{1, 40}, []int{1, 1000}, api.OK},
		{"in no order", []int{9, 8, 1}, []int{1000, 1, 7}, api.OK},
		{"ten", eleven[:10], ones(10), api.OK},
		{"eleven", eleven, ones(11), api.ErrArg},
		{"none", nil, nil, api.ErrArg},
		{"the heir 0", []int{0}, ones(1), api.ErrArg},
		{"the heir 41", []int{8, 41}, ones(2), api.ErrArg},
		{"the heir -1", []int{-1, 8}, ones(2), api.ErrArg},
		{"an heir twice", []int{8, 9, 8}, ones(3), api.ErrArg},
		{"the giver", []int{8, 7}, ones(2), api.ErrArg},
		{"a share less", []int{8, 9}, ones(1), api.ErrArg},
		{"a share more", []int{8}, ones(2), api.ErrArg},
		{"no shares", []int{8}, nil, api.ErrArg},
		{"shares alone", nil, ones(1), api.ErrArg},
		{"the share 0", []int{8, 9}, []int{1, 0}, api.ErrArg},
		{"the share 1001", []int{8, 9}, []int{1001, 1}, api.ErrArg},
		{"the share -1", []int{8}, []int{-1}, api.ErrArg},
		{"far shares", []int{8, 9}, []int{math.MinInt, math.MaxInt}, api.ErrArg},
		{"far heirs", []int{math.MaxInt, math.MinInt}, ones(2), api.ErrArg},
	} {
		y := api.Deed{Id: 1, Kind: api.DeedHeirs, From: 7, Heirs: x.heirs, Shares: x.shares}
		if e := deed.CheckDeed(y); e != x.want {
			t.Errorf("%s: error %d", x.name, e)
		}
	}
}

// enters returns so many DeedEnters of one part.
func enters(n int) []api.Deed {
	var l []api.Deed
	for i := range n {
		l = append(l, api.Deed{Id: i + 1, Kind: api.DeedEnter, To: 1 + i%api.MaxOwner, Parts: 1})
	}
	return l
}

// changed returns deeds with another one at an index.
func changed(l []api.Deed, at int, x api.Deed) []api.Deed {
	l = slices.Clone(l)
	l[at] = x
	return l
}

// B1.
func TestCheck(t *testing.T) {
	bad := api.Deed{Id: 401, Kind: api.DeedEnter}
	for _, x := range []struct {
		name string
		l    []api.Deed
		at   int
		e    api.Errno
	}{
		{"nothing", nil, 0, api.OK},
		{"the example", sample(t), 0, api.OK},
		{"400", enters(400), 0, api.OK},
		{"401", append(enters(400), api.Deed{Id: 401, Kind: api.DeedEnter, To: 1, Parts: 1}), 400, api.ErrLimit},
		{"401, the last one bad", append(enters(400), api.Deed{}), 400, api.ErrLimit},
		{"500, one bad", changed(append(enters(400), make([]api.Deed, 100)...), 7, bad), 7, api.ErrArg},
		{"a bad first", []api.Deed{{}}, 0, api.ErrArg},
		{"two bad ones", []api.Deed{enters(1)[0], bad, bad}, 1, api.ErrArg},
		{"the first Id 2", read(t, "2 0 0 enter 1 1"), 0, api.ErrArg},
		{"an Id twice", read(t, "1 0 0 enter 1 1", "1 0 0 enter 1 1"), 1, api.ErrArg},
		{"an Id left out", read(t, "1 0 0 enter 1 1", "3 0 0 enter 1 1"), 1, api.ErrArg},
		{"a wrong Id with an earlier Known", read(t, "1 5 0 enter 1 1", "3 4 0 enter 1 1"), 1, api.ErrArg},
		{"an earlier Known", faulty(t), 1, api.ErrTime},
		{"an earlier Known, but later than the first", read(t, "1 1 0 enter 1 1", "2 5 0 enter 1 1", "3 4 0 enter 1 1"), 2, api.ErrTime},
		{"the same Known", read(t, "1 5 0 enter 1 1", "2 5 0 enter 1 1"), 0, api.OK},
		{"an earlier Day", read(t, "1 5 9 enter 1 1", "2 5 0 enter 1 1"), 0, api.OK},
		{"an earlier Known and a wrong Of", read(t, "1 5 0 enter 1 1", "2 4 0 redeem 1"), 1, api.ErrTime},
		{"an idle deed", read(t, "1 5 0 grant 1 2 1"), 0, api.OK},
	} {
		if at, e := deed.Check(x.l); at != x.at || e != x.e {
			t.Errorf("%s: %d, error %d", x.name, at, e)
		}
	}
}

// B1: what a deed names.
func TestCheckOf(t *testing.T) {
	l := []string{"1 0 0 enter 1 5", "2 0 0 grant 1 2 1", "3 0 0 heirs 2 3 1", "4 0 0 lease 1 2 1 5", "5 0 0 pledge 1 2 1", "6 0 0 redeem 5", "7 0 0 seize 5", "8 0 0 pledge 2 1 1", "9 0 void 8"}
	for line, want := range map[string]api.Errno{
		"10 0 0 redeem 5": api.OK, "10 0 0 seize 5": api.OK, // again
		"10 0 0 redeem 8": api.OK, "10 0 0 seize 8": api.OK, // it does not count any more, but is a pledge
		"10 0 0 redeem 1": api.ErrState, "10 0 0 seize 1": api.ErrState,
		"10 0 0 redeem 2": api.ErrState, "10 0 0 seize 2": api.ErrState,
		"10 0 0 redeem 3": api.ErrState, "10 0 0 seize 3": api.ErrState,
		"10 0 0 redeem 4": api.ErrState, "10 0 0 seize 4": api.ErrState,
		"10 0 0 redeem 6": api.ErrState, "10 0 0 seize 6": api.ErrState,
		"10 0 0 redeem 7": api.ErrState, "10 0 0 seize 7": api.ErrState,
		"10 0 0 redeem 9": api.ErrState, "10 0 0 seize 9": api.ErrState,
		"10 0 void 1": api.OK, "10 0 void 2": api.OK, "10 0 void 3": api.OK, "10 0 void 4": api.OK,
		"10 0 void 5": api.OK, "10 0 void 6": api.OK, "10 0 void 7": api.OK,
		"10 0 void 8": api.ErrState, // it is named already
		"10 0 void 9": api.ErrState, // a DeedVoid
	} {
		longer := read(t, append(slices.Clone(l), line)...)
		at, e := deed.Check(longer)
		if e != want || at != 0 && e == api.OK || at != 9 && e != api.OK {
			t.Errorf("%s: %d, error %d", line, at, e)
		}
	}
}

// B1: the parts that are entered.
func TestCheckParts(t *testing.T) {
	for _, x := range []struct {
		name string
		l    []api.Deed
		at   int
		e    api.Errno
	}{
		{"all at once", read(t, "1 0 0 enter 1 1000000000"), 0, api.OK},
		{"one more", read(t, "1 0 0 enter 1 1000000000", "2 0 0 enter 2 1"), 1, api.ErrLimit},
		{"just so many", read(t, "1 0 0 enter 1 400000000", "2 0 0 enter 2 600000000"), 0, api.OK},
		{"one too many", read(t, "1 0 0 enter 1 400000000", "2 0 0 enter 2 600000000", "3 0 0 enter 3 1"), 2, api.ErrLimit},
		{"withdrawn ones add up, too", read(t, "1 0 0 enter 1 1000000000", "2 0 void 1", "3 0 0 enter 2 1"), 2, api.ErrLimit},
		{"others do not", read(t, "1 0 0 enter 1 999999999", "2 0 0 grant 1 2 1000000000", "3 0 0 lease 1 2 1000000000 5", "4 0 0 pledge 1 2 1000000000", "5 0 0 enter 3 1"), 0, api.OK},
		{"far more, and a bad one behind", append(read(t, "1 0 0 enter 1 1000000000", "2 0 0 enter 1 1000000000"), api.Deed{}), 1, api.ErrLimit},
	} {
		if at, e := deed.Check(x.l); at != x.at || e != x.e {
			t.Errorf("%s: %d, error %d", x.name, at, e)
		}
	}
}

// B1.
func TestAppend(t *testing.T) {
	l := sample(t)
	for line, want := range map[string]api.Errno{
		"9 50 0 enter 5 1": api.OK, "9 51 0 grant 5 6 1": api.OK, "9 50 0 seize 5": api.OK, "9 50 void 8": api.OK,
		"8 50 0 enter 5 1": api.ErrArg, "10 50 0 enter 5 1": api.ErrArg, "9 49 0 enter 5 1": api.ErrTime,
		"9 50 void 3": api.ErrState, "9 50 void 7": api.ErrState, "9 50 0 redeem 4": api.ErrState,
		"9 50 0 enter 5 1000000000": api.ErrLimit, "9 50 0 enter 5 999984881": api.ErrLimit, "9 50 0 enter 5 999984880": api.OK,
	} {
		x := read(t, line)[0]
		longer, e := deed.Append(l, x)
		if e != want || e != api.OK && len(longer) > 0 || e == api.OK && !sameDeeds(longer, append(slices.Clone(l), x)) {
			t.Errorf("%s: %v, error %d", line, longer, e)
		}
	}
	if longer, e := deed.Append(l, api.Deed{}); len(longer) > 0 || e != api.ErrArg {
		t.Errorf("a zero deed: %v, error %d", longer, e)
	}
	if longer, e := deed.Append(faulty(t), api.Deed{}); len(longer) > 0 || e != api.ErrTime {
		t.Errorf("behind what is no register: %v, error %d", longer, e)
	}
	for n, want := range map[int]api.Errno{399: api.OK, 400: api.ErrLimit} {
		all := enters(n)
		longer, e := deed.Append(all, api.Deed{Id: n + 1, Kind: api.DeedEnter, To: 1, Parts: 1})
		if e != want || e == api.OK && len(longer) != n+1 || e != api.OK && len(longer) > 0 {
			t.Errorf("behind %d: %d, error %d", n, len(longer), e)
		}
	}
	if one, e := deed.Append(nil, l[0]); e != api.OK || !sameDeeds(one, l[:1]) {
		t.Errorf("behind none: %v, error %d", one, e)
	}
}

// B2.
func TestCounting(t *testing.T) {
	l := sample(t)
	for _, x := range []struct {
		known int
		want  []int
	}{
		{-1, nil}, {0, []int{1, 2}}, {4, []int{1, 2}}, {5, []int{1, 2, 3}}, {9, []int{1, 2, 3, 4, 5}}, {39, []int{1, 2, 3, 4, 5, 6}},
		{40, []int{1, 2, 4, 5, 6}}, {50, []int{1, 2, 4, 5, 6, 8}}, {math.MaxInt, []int{1, 2, 4, 5, 6, 8}}, {math.MinInt, nil},
	} {
		got := deed.Counting(l, x.known)
		if !slices.Equal(ids(got), x.want) {
			t.Errorf("by %d: %v", x.known, ids(got))
		}
		for _, y := range got {
			if !sameDeed(y, l[y.Id-1]) {
				t.Errorf("by %d: %+v", x.known, y)
			}
		}
	}
	late := register(t, "1 0 9 enter 1 5", "2 1 7 heirs 1 3 2 2 5", "3 1 9 grant 1 2 1", "4 2 7 enter 2 5", "5 3 0 pledge 2 1 5", "6 3 8 redeem 5")
	got := deed.Counting(late, 3)
	if want := []api.Deed{late[4], late[1], late[3], late[5], late[0], late[2]}; !sameDeeds(got, want) {
		t.Errorf("late deeds: %v", got)
	}
	if got := deed.Counting(faulty(t), 9); len(got) > 0 {
		t.Errorf("of no register: %v", got)
	}
}

// B2: what makes a deed idle.
func TestIdle(t *testing.T) {
	for _, x := range []struct {
		name  string
		lines []string
		want  []int
	}{
		{"nothing", nil, nil},
		{"nobody has anything", []string{"1 0 0 grant 1 2 1", "2 0 0 heirs 1 2 1", "3 0 0 lease 1 2 1 5", "4 0 0 pledge 1 2 1", "5 0 0 redeem 4", "6 0 0 seize 4"}, []int{1, 2, 3, 4, 5, 6}},
		{"all that there is", []string{"1 0 0 enter 1 5", "2 0 0 grant 1 2 5", "3 0 0 lease 2 1 5 9", "4 0 10 pledge 2 1 5"}, nil},
		{"one more", []string{"1 0 0 enter 1 5", "2 0 0 grant 1 2 6", "3 0 0 lease 1 2 6 9", "4 0 0 pledge 1 2 6"}, []int{2, 3, 4}},
		{"an idle deed leaves all as it was", []string{"1 0 0 enter 1 5", "2 0 0 grant 1 2 6", "3 0 0 grant 1 2 5"}, []int{2}},
		{"leased out", []string{"1 0 0 enter 1 5", "2 0 1 lease 1 2 3 4", "3 0 4 grant 1 3 3", "4 0 4 lease 1 3 3 9", "5 0 4 pledge 1 3 3", "6 0 5 grant 1 3 3"}, []int{3, 4, 5}},
		{"leased in is not free", []string{"1 0 0 enter 1 5", "2 0 1 lease 1 2 3 4", "3 0 2 grant 2 3 1", "4 0 2 heirs 2 3 1", "5 0 2 lease 2 3 1 4"}, []int{3, 4, 5}},
		{"pledged", []string{"1 0 0 enter 1 5", "2 0 0 pledge 1 2 3", "3 0 0 grant 1 3 3", "4 0 0 lease 1 3 3 4", "5 0 0 pledge 1 3 3", "6 0 0 grant 1 3 2", "7 0 0 heirs 1 3 1"}, []int{3, 4, 5, 7}},
		{"redeemed", []string{"1 0 0 enter 1 5", "2 0 0 pledge 1 2 3", "3 0 1 redeem 2", "4 0 1 grant 1 3 5", "5 0 1 redeem 2", "6 0 1 seize 2"}, []int{5, 6}},
		{"seized", []string{"1 0 0 enter 1 5", "2 0 0 pledge 1 2 3", "3 0 1 seize 2", "4 0 1 grant 2 3 3", "5 0 1 grant 1 3 2", "6 0 1 seize 2", "7 0 1 redeem 2"}, []int{6, 7}},
		{"ended before the pledge", []string{"1 0 0 enter 1 5", "2 0 3 pledge 1 2 3", "3 0 2 redeem 2", "4 0 2 seize 2", "5 0 3 redeem 2"}, []int{3, 4}},
		{"the pledge idle", []string{"1 0 0 enter 1 5", "2 0 0 pledge 1 2 6", "3 0 1 redeem 2", "4 0 1 seize 2"}, []int{2, 3, 4}},
		{"the pledge withdrawn", []string{"1 0 0 enter 1 5", "2 0 0 pledge 1 2 3", "3 0 1 redeem 2", "4 0 void 2"}, []int{3}},
		{"the end of a pledge withdrawn", []string{"1 0 0 enter 1 5", "2 0 0 pledge 1 2 3", "3 0 1 redeem 2", "4 0 void 3", "5 0 1 grant 1 3 3", "6 0 2 seize 2"}, []int{5}},
		{"an idle seizure does not end a pledge", []string{"1 0 0 enter 1 5", "2 0 3 pledge 1 2 3", "3 0 2 seize 2", "4 0 4 grant 1 3 3", "5 0 5 redeem 2"}, []int{3, 4}},
		{"the order of the days", []string{"1 0 5 grant 1 2 1", "2 0 4 grant 1 2 1", "3 0 5 enter 1 5", "4 0 6 grant 1 2 1"}, []int{1, 2}},
		{"ascending, not as done", []string{"1 0 9 grant 1 2 1", "2 0 8 grant 1 2 1", "3 0 7 grant 1 2 1"}, []int{1, 2, 3}},
		{"the last day", []string{"1 0 100000 grant 1 2 1", "2 0 100000 enter 1 1", "3 0 100000 grant 1 2 1"}, []int{1}},
		{"heirs without a share", []string{"1 0 0 enter 1 1", "2 0 0 heirs 1 2 1 3 1", "3 0 0 grant 3 2 1", "4 0 0 heirs 1 2 1"}, []int{3, 4}},
		{"a late grant takes away what is granted later", []string{"1 0 0 enter 1 5", "2 5 5 grant 1 2 4", "3 6 3 grant 1 3 2"}, []int{2}},
	} {
		l := register(t, x.lines...)
		if got := deed.Idle(l, 100); !slices.Equal(got, x.want) {
			t.Errorf("%s: %v", x.name, got)
		}
	}
	for known, want := range map[int][]int{-1: nil, 9: nil, 30: {6}, 39: {6}, 40: nil, 50: nil} {
		if got := deed.Idle(sample(t), known); !slices.Equal(got, want) {
			t.Errorf("by %d: %v", known, got)
		}
	}
	if got := deed.Idle(append(faulty(t), api.Deed{Id: 3, Kind: api.DeedGrant, From: 1, To: 2, Parts: 1}), 9); len(got) > 0 {
		t.Errorf("of no register: %v", got)
	}
}

// B2.
func TestLate(t *testing.T) {
	for _, x := range []struct {
		name string
		l    []api.Deed
		want []int
	}{
		{"the example", sample(t), []int{4, 5, 6, 8}},
		{"a day late, on the day, a day early", register(t, "1 3 2 enter 1 1", "2 3 3 enter 1 1", "3 3 4 enter 1 1"), []int{1}},
		{"no DeedVoids", register(t, "1 3 3 enter 1 1", "2 9 void 1"), nil},
		{"withdrawn ones, too", register(t, "1 3 2 enter 1 1", "2 9 void 1"), []int{1}},
		{"idle ones, too", register(t, "1 3 2 grant 1 2 1"), []int{1}},
		{"nothing", nil, nil},
		{"no register", read(t, "1 5 0 enter 1 1", "3 5 0 enter 1 1"), nil},
	} {
		if got := deed.Late(x.l); !slices.Equal(got, x.want) {
			t.Errorf("%s: %v", x.name, got)
		}
	}
}

// B6.
func TestPossible(t *testing.T) {
	l := sample(t)
	for _, x := range []struct {
		line  string
		known int
		want  api.Errno
	}{
		{"9 50 30 grant 4 1 7001", 50, api.ErrPoor},
		{"9 50 30 grant 4 1 7000", 50, api.OK},
		{"9 50 24 grant 4 1 1", 50, api.ErrPoor},
		{"9 50 25 grant 4 1 1", 50, api.OK},
		{"9 50 30 grant 4 1 7001", 49, api.OK}, // it does not count
		{"9 60 30 grant 4 1 7001", 59, api.OK},
		{"9 60 30 grant 4 1 7001", 60, api.ErrPoor},
		{"9 60 30 grant 4 1 7001", math.MaxInt, api.ErrPoor},
		{"9 50 30 enter 4 1", 50, api.OK},
		{"9 50 26 redeem 5", 50, api.ErrPoor},
		{"9 50 24 redeem 5", 50, api.OK},
		{"9 50 24 seize 5", 50, api.OK},
		{"9 50 6 seize 5", 50, api.ErrPoor},
		{"9 50 20 lease 1 2 1 30", 50, api.ErrPoor},
		{"9 50 21 lease 1 2 5040 30", 50, api.OK},
		{"9 50 6 pledge 2 1 10080", 50, api.OK}, // then other deeds are idle
		{"9 50 8 pledge 2 1 2081", 50, api.ErrPoor},
		{"9 50 8 pledge 2 1 2080", 50, api.OK},
		{"9 50 0 heirs 3 1 1", 50, api.ErrPoor},
		{"9 50 8 heirs 3 1 1", 50, api.OK},
		{"9 50 void 8", 50, api.OK},
		{"9 50 void 3", 50, api.ErrState},
		{"9 49 30 grant 4 1 7001", 50, api.ErrTime},
		{"10 50 30 grant 4 1 7001", 50, api.ErrArg},
		{"9 50 30 enter 4 999999999", 50, api.ErrLimit},
	} {
		if e := deed.Possible(l, x.known, read(t, x.line)[0]); e != x.want {
			t.Errorf("%s by %d: error %d", x.line, x.known, e)
		}
	}
	if e := deed.Possible(faulty(t), 9, api.Deed{}); e != api.ErrTime {
		t.Errorf("behind what is no register: error %d", e)
	}
	if e := deed.Possible(l, 50, api.Deed{}); e != api.ErrArg {
		t.Errorf("a zero deed: error %d", e)
	}
	if e := deed.Possible(l, 50, read(t, "9 50 30 grant 2 1 1")[0]); e != api.OK {
		t.Errorf("a deed beside idle ones: error %d", e)
	}
	if e := deed.Possible(l[:6], 30, read(t, "7 30 9 enter 1 1")[0]); e != api.OK {
		t.Errorf("a deed behind an idle one: error %d", e)
	}
}
