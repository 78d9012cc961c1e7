package deed_test

import (
	"math"
	"strings"
	"testing"

	"couchant/api"
	"couchant/deed"
)

// B10.
func TestWriteAndRead(t *testing.T) {
	for _, x := range []struct {
		line string
		x    api.Deed
	}{
		{"1 0 0 enter 1 5040", api.Deed{Id: 1, Kind: api.DeedEnter, To: 1, Parts: 5040}},
		{"3 5 6 grant 2 1 2520", api.Deed{Id: 3, Known: 5, Day: 6, Kind: api.DeedGrant, From: 2, To: 1, Parts: 2520}},
		{"3 5 6 heirs 2 1 1000", api.Deed{Id: 3, Known: 5, Day: 6, Kind: api.DeedHeirs, From: 2, Heirs: []int{1}, Shares: []int{1000}}},
		{"3 5 6 heirs 2 9 1 4 3 5 2", api.Deed{Id: 3, Known: 5, Day: 6, Kind: api.DeedHeirs, From: 2, Heirs: []int{9, 4, 5}, Shares: []int{1, 3, 2}}},
		{"4 9 6 lease 1 3 5040 20", api.Deed{Id: 4, Known: 9, Day: 6, Kind: api.DeedLease, From: 1, To: 3, Parts: 5040, End: 20}},
		{"5 9 7 pledge 2 4 7000", api.Deed{Id: 5, Known: 9, Day: 7, Kind: api.DeedPledge, From: 2, To: 4, Parts: 7000}},
		{"9 50 26 redeem 5", api.Deed{Id: 9, Known: 50, Day: 26, Kind: api.DeedRedeem, Of: 5}},
		{"8 50 25 seize 5", api.Deed{Id: 8, Known: 50, Day: 25, Kind: api.DeedSeize, Of: 5}},
		{"7 40 void 3", api.Deed{Id: 7, Known: 40, Kind: api.DeedVoid, Of: 3}},
		{"400 100000 100000 lease 40 39 1000000000 100000", api.Deed{Id: 400, Known: 100000, Day: 100000, Kind: api.DeedLease, From: 40, To: 39, Parts: 1000000000, End: 100000}},
		{"400 100000 void 399", api.Deed{Id: 400, Known: 100000, Kind: api.DeedVoid, Of: 399}},
		{"1 0 0 heirs 11 10 1 9 2 8 3 7 4 6 5 5 6 4 7 3 8 2 9 1 10", api.Deed{Id: 1, Kind: api.DeedHeirs, From: 11, Heirs: []int{10, 9, 8, 7, 6, 5, 4, 3, 2, 1}, Shares: []int{1, 2, 3, 4, 5, 6, 7, 8, 9, 10}}},
	} {
		if got, e := deed.Write(x.x); got != x.line || e != api.OK {
			t.Errorf("Write(%+v): %q, error %d", x.x, got, e)
		}
		if got, e := deed.Read(x.line); !sameDeed(got, x.x) || e != api.OK {
			t.Errorf("Read(%q): %+v, error %d", x.line, got, e)
		}
	}
	bad := []api.Deed{{}, {Id: 1, Kind: 9}, {Id: 1, Kind: 255, To: 1, Parts: 1}, {Id: 1, To: 1, Parts: 1}, {Id: math.MinInt, Known: math.MinInt, Day: math.MinInt, Kind: api.DeedVoid, Of: math.MinInt}}
	for _, x := range wellFormed() {
		y, z, w := x, x, x
		y.Id, z.Known, w.Of = 401, -1, 9
		bad = append(bad, y, z, w)
	}
	for _, x := range bad {
		if got, e := deed.Write(x); got != "" || e != api.ErrArg {
			t.Errorf("Write(%+v): %q, error %d", x, got, e)
		}
	}
}

// B10.
func TestReadOfNoDeed(t *testing.T) {
	for _, line := range []string{
		"", " ", "   ", "      ", "\n", "1", "1 0", "1 0 0", "1 0 0 0", "enter", "1 enter 1 5", "1 0 enter 1 5", "void 1", "1 void 1", "a b c d e f", "1 0 0 enter", "1 0 0 enter 1",
		"1 0 0 enter 1 5 ", " 1 0 0 enter 1 5", "1  0 0 enter 1 5", "1 0 0  enter 1 5", "1 0 0 enter 1 5\n", "1 0 0 enter 1 5\r", "1\t0 0 enter 1 5", "1 0 0 enter 1 5 6", "1 0 0 enter 0 1 5", "1 0 0 enter 1 5 0",
		"01 0 0 enter 1 5", "1 00 0 enter 1 5", "1 0 00 enter 1 5", "1 0 0 enter 01 5", "1 0 0 enter 1 05", "+1 0 0 enter 1 5", "1 +0 0 enter 1 5", "1 -0 0 enter 1 5", "1 0 -0 enter 1 5", "1 0 0 enter +1 5", "1 0 0 enter 1 +5",
		"1 0 0 Enter 1 5", "1 0 0 enters 1 5", "1 0 0 ente 1 5", "1 0 0  1 5", "1 0 0 1 1 5", "1 0 0 enter x 5", "1 0 0 enter 1 x", "x 0 0 enter 1 5", "1 x 0 enter 1 5", "1 0 x enter 1 5",
		"1 0 0 enter 1 1_0", "1 0 0 enter 1 0x1", "1 0 0 enter 1 1.0", "1 0 0 enter 1 ١", "1 0 0 enter 1 1e3", "1 0 0 enter 1 5\x00",
		"0 0 0 enter 1 5", "401 0 0 enter 1 5", "-1 0 0 enter 1 5", "1 100001 0 enter 1 5", "1 -1 0 enter 1 5", "1 0 100001 enter 1 5", "1 0 -1 enter 1 5", "1 0 0 enter 41 5", "1 0 0 enter 1 0", "1 0 0 enter 1 1000000001", "1 0 0 enter 1 -5",
		"1 0 0 enter 1 18446744073709551621", "18446744073709551617 0 0 enter 1 5", "9223372036854775808 0 0 enter 1 5", "1 0 0 enter 1 " + strings.Repeat("9", 5000),
		"1 0 0 grant 1 1 5", "1 0 0 grant 1 5", "1 0 0 grant 0 1 5", "1 0 0 grant 1 2 5 6", "1 0 0 grant 41 2 5",
		"1 0 0 heirs 1", "1 0 0 heirs 1 2", "1 0 0 heirs 1 2 1 3", "1 0 0 heirs 1 1 1", "1 0 0 heirs 1 2 1 2 1", "1 0 0 heirs 1 2 0", "1 0 0 heirs 1 2 1001", "1 0 0 heirs 0 2 1", "1 0 0 heirs 1 41 1", "1 0 0 heirs 1 2 1 ", "1 0 0 heirs 1 2  1", "1 0 0 heirs 1 02 1",
		"1 0 0 heirs 40 1 1 2 1 3 1 4 1 5 1 6 1 7 1 8 1 9 1 10 1 11 1",
		"1 0 0 lease 1 2 5", "1 0 6 lease 1 2 5 5", "1 0 0 lease 1 2 5 100001", "1 0 0 lease 1 2 5 6 7", "1 0 0 pledge 1 2 5 6", "1 0 0 pledge 1 2", "1 0 0 pledge 2 2 1",
		"2 0 0 redeem 0", "2 0 0 redeem 2", "2 0 0 redeem 3", "1 0 0 redeem 1", "2 0 redeem 1", "2 0 0 redeem", "2 0 0 redeem 1 1", "2 0 0 seize 0", "2 0 0 seize 2", "2 0 seize 1",
		"2 0 void 0", "2 0 void 2", "1 0 void 1", "2 0 0 void 1", "2 0 5 void 1", "2 0 void", "2 0 void 1 1", "2 0 void 1 ", "2 0 void 01", "2 0 Void 1", "2 void void 1", "2 0 void enter 1 5", "2 0 void void 1", "2 0 enter void 1 5",
	} {
		if got, e := deed.Read(line); !sameDeed(got, api.Deed{}) || e != api.ErrForm {
			t.Errorf("Read(%q): %+v, error %d", line, got, e)
		}
	}
}

// P2.8.
func TestTextsAtRandom(t *testing.T) {
	r := random(41)
	readable := 0
	for range 3000 {
		x := randomDeed(r, make([]api.Deed, r.IntN(400)))
		x.Id, x.Known = pick(r, x.Id, 400), r.IntN(api.MaxDay+1)
		if x.Parts > 0 {
			x.Parts = pick(r, x.Parts, 1+r.IntN(api.MaxParts))
		}
		if deed.CheckDeed(x) != api.OK { // its Of may be too great
			continue
		}
		line, e := deed.Write(x)
		mustOK(t, "Write", e)
		if got, e := deed.Read(line); !sameDeed(got, x) || e != api.OK {
			t.Errorf("Read(%q): %+v, error %d; want %+v", line, got, e, x)
		}
		// A line with one byte changed is that of another deed, or of none.
		changed := []byte(line)
		changed[r.IntN(len(changed))] = pick(r, " ", "0", "1", "9", "-", "e", "\n", "\xff")[0]
		if got, e := deed.Read(string(changed)); e == api.OK {
			readable++
			if again, e := deed.Write(got); again != string(changed) || e != api.OK {
				t.Errorf("Read(%q): %+v, but its line is %q, error %d", changed, got, again, e)
			}
			if string(changed) != line && sameDeed(got, x) {
				t.Errorf("Read(%q) and Read(%q) are the same", changed, line)
			}
		}
	}
	if readable < 300 {
		t.Errorf("only %d changed lines were those of deeds", readable)
	}
}
