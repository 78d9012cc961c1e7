package share_test

import (
	"strings"
	"testing"

	"couchant/api"
	"couchant/share"
)

// A10.
func TestWriteAndRead(t *testing.T) {
	for _, x := range []struct {
		line string
		x    api.Equal
	}{
		{"1 0 equal cow 0 1 1", equal(1, 0, "cow", 0, 1, 1)},
		{"4 10 equal sheep 100 1 5", equal(4, 10, "sheep", 100, 1, 5)},
		{"1000000 100000 equal z-9 100000 999999999 1000000", equal(1000000, 100000, "z-9", 100000, 999999999, 1000000)},
		{"7 3 equal void 9 3 8", equal(7, 3, "void", 9, 3, 8)},
		{"7 3 equal equal 9 1000 1", equal(7, 3, "equal", 9, 1000, 1)},
		{"5 20 void 4", void(5, 20, 4)},
		{"1 0 void 1", void(1, 0, 1)},
		{"1000000 100000 void 1000000", void(1000000, 100000, 1000000)},
	} {
		if got, e := share.Write(x.x); got != x.line || e != api.OK {
			t.Errorf("Write(%v): %q, error %d", x.x, got, e)
		}
		if got, e := share.Read(x.line); got != x.x || e != api.OK {
			t.Errorf("Read(%q): %v, error %d", x.line, got, e)
		}
	}
	for _, x := range []api.Equal{{}, equal(0, 0, "cow", 0, 1, 1), equal(1, 0, "cow", 0, 2, 4), equal(1, 0, "Cow", 0, 1, 1), void(1, -1, 1), {Id: 2, Of: 1, Sort: "cow", Stints: f(1, 1)}} {
		if got, e := share.Write(x); got != "" || e != api.ErrArg {
			t.Errorf("Write(%v): %q, error %d", x, got, e)
		}
	}
}

// A10.
func TestReadOfNoRecord(t *testing.T) {
	for _, line := range []string{
		"", " ", "   ", "\n", "1", "1 0", "1 0 void", "1 0 equal", "1 0 2", "void 4", "a b c d", "a b c d e f g",
		"1 0 void 0", "1 0 void 1000001", "0 0 void 1", "1 100001 void 1", "1 -1 void 1",
		"1 0 void 1 ", " 1 0 void 1", "1  0 void 1", "1 0 void  1", "1 0 void 1\n", "1\t0 void 1", "1 0 void 1 2", "1 0 Void 1", "1 0 voids 1", "1 0 equal 1",
		"01 0 void 1", "1 00 void 1", "1 0 void 01", "+1 0 void 1", "1 +0 void 1", "1 -0 void 1", "1 0 void +1", "1 0 void 1_0", "1 0 void 0x1", "1 0 void 1.0", "1 0 void ١",
		"1 0 void 18446744073709551617", "9223372036854775808 0 void 1", "1 0 void " + strings.Repeat("9", 5000),
		"1 0 equal cow 0 1 1 ", " 1 0 equal cow 0 1 1", "1 0 equal cow 0 1 1\n", "1 0 equal cow 0 1 1\r", "1 0 equal  0 1 1", "1 0 equal cow  0 1 1", "1 0 equal cow 0 1/1", "1 0 equal cow 0 1 1 1", "1 0 equal cow 0 1",
		"1 0 equal cow 0 2 4", "1 0 equal cow 0 0 1", "1 0 equal cow 0 -1 1", "1 0 equal cow 0 -1 -1", "1 0 equal cow 0 1001 1", "1 0 equal cow 0 1 0", "1 0 equal cow 0 1 1000001", "1 0 equal cow 0 01 1", "1 0 equal cow 0 1 +1",
		"1 0 equal cow 100001 1 1", "1 0 equal cow -1 1 1", "1 0 equal cow -0 1 1", "1 0 equal cow 00 1 1", "1 0 equal cow x 1 1", "1 0 equal cow 0 x 1", "1 0 equal cow 0 1 x",
		"1 0 equal Cow 0 1 1", "1 0 equal 1cow 0 1 1", "1 0 equal " + strings.Repeat("a", 25) + " 0 1 1", "1 0 equals cow 0 1 1", "1 0 void cow 0 1 1",
		"0 0 equal cow 0 1 1", "1000001 0 equal cow 0 1 1", "x 0 equal cow 0 1 1", "1 x equal cow 0 1 1", "1 100001 equal cow 0 1 1",
	} {
		if got, e := share.Read(line); got != (api.Equal{}) || e != api.ErrForm {
			t.Errorf("Read(%q): %v, error %d", line, got, e)
		}
	}
}

// P1.8.
func TestTextsAtRandom(t *testing.T) {
	r := random(41)
	read := 0
	for range 3000 {
		each := randomEach(r)
		x := equal(1+r.IntN(api.MaxId), r.IntN(api.MaxDay+1), pick(r, "a", "cow-2", "void", "equal"), r.IntN(api.MaxDay+1), each.Num, each.Den)
		if r.IntN(2) == 0 {
			x = void(x.Id, x.Known, 1+r.IntN(api.MaxId))
		}
		line, e := share.Write(x)
		mustOK(t, "Write", e)
		if got, e := share.Read(line); got != x || e != api.OK {
			t.Errorf("Read(%q): %v, error %d; want %v", line, got, e, x)
		}
		// A line with one byte changed is that of another record, or of none.
		changed := []byte(line)
		changed[r.IntN(len(changed))] = pick(r, " ", "0", "1", "9", "-", "a", "\n", "\xff")[0]
		if got, e := share.Read(string(changed)); e == api.OK {
			read++
			if again, e := share.Write(got); again != string(changed) || e != api.OK {
				t.Errorf("Read(%q): %v, but its line is %q, error %d", changed, got, again, e)
			}
		}
	}
	if read < 100 {
		t.Errorf("only %d changed lines were those of records", read)
	}
}
