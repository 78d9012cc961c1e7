package fell_test

import (
	"strings"
	"testing"

	"couchant/api"
	"couchant/fell"
)

// E6.
func TestWriteAndRead(t *testing.T) {
	f := sample(t)
	// A gate can be called like a place, and both like a word.
	f.Gates = append(f.Gates, api.Gate{Name: "high", A: 2, B: 0}, api.Gate{Name: "void", A: 2, B: 0})
	f.Places = append(f.Places, api.Place{Name: "stay", Kind: 2})
	for line, x := range map[string]api.Report{
		"1 0 stay 1 a high 0 0 0": {Id: 1, Kind: api.ReportStay, Owner: 1, Sort: "a"},
		"1000000 100000 stay 40 zzzzzzzzzzzzzzzzzzzzzzzz yard 2 1000 1000": {Id: 1000000, Known: 100000, Kind: api.ReportStay, Owner: 40, Sort: strings.Repeat("z", 24), At: 2, Tick: 2, Low: 1000, High: 1000},
		"2 1 pass 7 sheep lane 1 0 1000":                                   {Id: 2, Known: 1, Kind: api.ReportPass, Owner: 7, Sort: "sheep", At: 1, Tick: 1, High: 1000},
		"3 1 back 10 sheep high 0 3 3":                                     {Id: 3, Known: 1, Kind: api.ReportBack, Owner: 10, Sort: "sheep", At: 2, Low: 3, High: 3},
		"3 1 pass 10 sheep void 0 3 3":                                     {Id: 3, Known: 1, Kind: api.ReportPass, Owner: 10, Sort: "sheep", At: 3, Low: 3, High: 3},
		"4 1 born 7 sheep yard 1 51 999":                                   {Id: 4, Known: 1, Kind: api.ReportBorn, Owner: 7, Sort: "sheep", At: 2, Tick: 1, Low: 51, High: 999},
		"5 1 dead 7 void high 1 0 1":                                       {Id: 5, Known: 1, Kind: api.ReportDead, Owner: 7, Sort: "void", Tick: 1, High: 1},
		"6 1 bought 7 sheep stay 0 0 1":                                    {Id: 6, Known: 1, Kind: api.ReportBought, Owner: 7, Sort: "sheep", At: 3, High: 1},
		"7 10 sold 7 sheep low 1 2 4":                                      {Id: 7, Known: 10, Kind: api.ReportSold, Owner: 7, Sort: "sheep", At: 1, Tick: 1, Low: 2, High: 4},
		"8 1 void 1":                                                       {Id: 8, Known: 1, Kind: api.ReportVoid, Of: 1},
		"8 0 void 1000000":                                                 {Id: 8, Kind: api.ReportVoid, Of: 1000000},
		"1000000 100000 void 100":                                          {Id: 1000000, Known: 100000, Kind: api.ReportVoid, Of: 100},
	} {
		if got, e := fell.Write(f, x); got != line || e != api.OK {
			t.Errorf("Write(%v): %q, error %d, want %q", x, got, e, line)
		}
		if got, e := fell.Read(f, line); got != x || e != api.OK {
			t.Errorf("Read(%q): %v, error %d, want %v", line, got, e, x)
		}
	}
}

// E6: what is not right has no line.
func TestWriteRefuses(t *testing.T) {
	f := sample(t)
	for _, bad := range badReports() {
		if got, e := fell.Write(f, bad.x); got != "" || e != bad.e {
			t.Errorf("Write(%v): %q, error %d, want %d", bad.x, got, e, bad.e)
		}
	}
}

// wrongNumbers are words that are written otherwise, or are none of numbers.
var wrongNumbers = []string{"", "x", "-1", "+1", "01", "00", "-0", "1.0", "1e0", "1_0", "0x1", "１", "1000001", "18446744073709551617", "-9223372036854775809", strings.Repeat("9", 5000), "0" + strings.Repeat("0", 5000)}

// E6: what is no line.
func TestReadRefuses(t *testing.T) {
	f := sample(t)
	lines := []string{
		"", " ", "1", "1 0", "1 0 void", "1 0 void ", "1 0 void 1 ", " 1 0 void 1", "1 0  void 1", "1 0 void 1\n", "1 0 void 1\r", "1\t0 void 1", "1 0 void 1 1", "1 0 Void 1", "1 0 voids 1", "1 0 stay 1", "1 0 5 1", "0 0 void 1", "1 100001 void 1", "1 0 void 0", "1 0 void 1000001", "1 0 void 7 sheep high 0 0 0", "1 0 void 0 sheep high 0 0 0", "1 0 void 1   0 0 0",
		"1 0 stay 7 sheep high 0 0", "1 0 stay 7 sheep high 0 0 0 0", "1 0 stay 7 sheep high 0 0 0 ", "1 0 stay 7 sheep high 0 0 0\n", " 1 0 stay 7 sheep high 0 0 0", "1 0 stay 7  sheep high 0 0", "1 0 Stay 7 sheep high 0 0 0", "1 0 8 7 sheep high 0 0 0", "1 0  7 sheep high 0 0 0", "1 0 1 7 sheep high 0 0 0",
		"1 0 rest 7 sheep high 0 0 0", "1 0 begin 7 sheep high 0 0 0", "1 0 end 7 sheep high 0 0 0", "1 0 heaf 7 sheep high 0 0 0", "1 0 pass 7 sheep high 0 0 0", "1 0 back 7 sheep high 0 0 0", "1 0 stay 7 sheep gap 0 0 0", "1 0 born 7 sheep gap 0 0 0", "1 0 stay 7 sheep high2 0 0 0", "1 0 stay 7 sheep  0 0 0", "1 0 stay 7 sheep 0 0 0 0", "1 0 stay 7 sheep High 0 0 0",
		"0 0 stay 7 sheep high 0 0 0", "1000001 0 stay 7 sheep high 0 0 0", "1 100001 stay 7 sheep high 0 0 0", "1 0 stay 0 sheep high 0 0 0", "1 0 stay 41 sheep high 0 0 0", "1 0 stay 7 Sheep high 0 0 0", "1 0 stay 7 7 high 0 0 0", "1 0 stay 7  high 0 0 0", "1 0 stay 7 " + strings.Repeat("a", 25) + " high 0 0 0", "1 0 stay 7 sheep high 3 0 0", "1 0 pass 7 sheep gap 2 0 0", "1 0 sold 7 sheep high 2 0 0", "1 0 stay 7 sheep high 0 1 0", "1 0 stay 7 sheep high 0 0 1001", "1 0 stay 7 sheep high 0 1001 1001",
		strings.Repeat(" ", 3), strings.Repeat(" ", 8), strings.Repeat("1 ", 8) + "1", strings.Repeat("1 ", 5000), "\xff", "1 0 void 1\x00", "1 0 stay 7 sheep high 0 0 0\xff",
	}
	for _, number := range wrongNumbers {
		for line, places := range map[string][]int{"1 0 void 1": {0, 1, 3}, "1 0 stay 7 sheep high 0 0 0": {0, 1, 3, 6, 7, 8}} {
			for _, at := range places {
				words := strings.Split(line, " ")
				words[at] = number
				lines = append(lines, strings.Join(words, " "))
			}
		}
	}
	for _, line := range lines {
		if got, e := fell.Read(f, line); got != (api.Report{}) || e != api.ErrForm {
			t.Errorf("Read(%q): %v, error %d", line, got, e)
		}
	}
}

// P5.1 and P5.7, for reports: against the chapter's words; a line with another letter is that of another report, or of none.
func TestTextsAtRandom(t *testing.T) {
	r := random(31)
	readable := 0
	for range 20000 {
		f := randomFell(r)
		x := randomReport(r, f, -1)
		if r.IntN(8) == 0 {
			x = api.Report{Id: x.Id, Known: x.Known, Kind: api.ReportVoid, Of: 1 + r.IntN(1000000)}
		}
		line, e := fell.Write(f, x)
		if want := writtenLine(f, x); line != want || e != api.OK {
			t.Fatalf("Write(%v): %q, error %d, want %q", x, line, e, want)
		}
		if got, e := fell.Read(f, line); got != x || e != api.OK {
			t.Fatalf("Read(%q): %v, error %d, want %v", line, got, e, x)
		}
		at, letters := r.IntN(len(line)), "0123456789 -+\nab"
		next := r.IntN(len(letters))
		changed := line[:at] + letters[next:next+1] + line[at+r.IntN(2):]
		got, e := fell.Read(f, changed)
		if e != api.OK {
			if got != (api.Report{}) || e != api.ErrForm {
				t.Fatalf("Read(%q): %v, error %d", changed, got, e)
			}
			continue
		}
		readable++
		if again, e := fell.Write(f, got); again != changed || e != api.OK {
			t.Fatalf("Read(%q): %v, but its line is %q, error %d", changed, got, again, e)
		}
	}
	if readable < 2000 {
		t.Errorf("only %d changed lines could be read", readable)
	}
}
