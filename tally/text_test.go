package tally_test

import (
	"strings"
	"testing"

	"couchant/api"
	"couchant/tally"
)

// D11.
func TestWriteAndRead(t *testing.T) {
	for line, c := range map[string]api.Count{
		"1 2 3 4 5":                      {Id: 1, Day: 2, Shepherd: 3, Number: 4, Worn: 5},
		"1 0 1 0 0":                      {Id: 1, Shepherd: 1},
		"1000000 100000 40 100000 10000": {Id: 1000000, Day: 100000, Shepherd: 40, Number: 100000, Worn: 10000},
		"10 100 20 30 0":                 {Id: 10, Day: 100, Shepherd: 20, Number: 30},
	} {
		if got, e := tally.Write(c); got != line || e != api.OK {
			t.Errorf("Write(%v): %q, error %d, want %q", c, got, e, line)
		}
		if got, e := tally.Read(line); got != c || e != api.OK {
			t.Errorf("Read(%q): %v, error %d, want %v", line, got, e, c)
		}
	}
	for line, x := range map[string]api.Recount{
		"1 2 3 4 5 6":                            {Id: 1, Known: 2, Day: 3, Shepherd: 4, True: 5, Number: 6},
		"1 0 0 1 1 0":                            {Id: 1, Shepherd: 1, True: 1},
		"1000000 100000 100000 40 100000 200000": {Id: 1000000, Known: 100000, Day: 100000, Shepherd: 40, True: 100000, Number: 200000},
		"9 0 100 10 20 90":                       {Id: 9, Day: 100, Shepherd: 10, True: 20, Number: 90},
	} {
		if got, e := tally.WriteRecount(x); got != line || e != api.OK {
			t.Errorf("WriteRecount(%v): %q, error %d, want %q", x, got, e, line)
		}
		if got, e := tally.ReadRecount(line); got != x || e != api.OK {
			t.Errorf("ReadRecount(%q): %v, error %d, want %v", line, got, e, x)
		}
	}
}

// D11: what is not valid has no line.
func TestWriteRefuses(t *testing.T) {
	for _, c := range badCounts() {
		if got, e := tally.Write(c); got != "" || e != api.ErrArg {
			t.Errorf("Write(%v): %q, error %d", c, got, e)
		}
	}
	for _, x := range badRecounts() {
		if got, e := tally.WriteRecount(x); got != "" || e != api.ErrArg {
			t.Errorf("WriteRecount(%v): %q, error %d", x, got, e)
		}
	}
}

// badLines returns lines that are not those of so many ones.
func badLines(size int) []string {
	good := strings.TrimSuffix(strings.Repeat("1 ", size), " ")
	lines := []string{
		"", " ", "1", good + " 1", good + " ", " " + good, good + "\n", good + "\r", "\n" + good, strings.Replace(good, " ", "  ", 1), strings.Replace(good, " ", "\t", 1), strings.Replace(good, " ", ",", 1),
		strings.TrimSuffix(good, " 1"), strings.Replace(good, " ", "", 1), strings.ReplaceAll(good, " ", ""), strings.Repeat(" ", size-1), strings.Repeat("- ", size), strings.Repeat("1 ", 5000), "\xff", good + "\x00", good + "\xff",
	}
	for _, number := range []string{"", "x", "-1", "+1", "01", "00", "-0", "+0", "1.0", "1e0", "1_0", "0x1", "１", "١", "1000001", "18446744073709551617", "9223372036854775808", "-9223372036854775809", strings.Repeat("9", 5000), "0" + strings.Repeat("0", 5000)} {
		for at := range size {
			words := strings.Fields(good)
			words[at] = number
			lines = append(lines, strings.Join(words, " "))
		}
	}
	return lines
}

// D11: what is no line.
func TestReadRefuses(t *testing.T) {
	for _, line := range append(badLines(5), "0 1 1 1 1", "1000001 1 1 1 1", "1 100001 1 1 1", "1 1 0 1 1", "1 1 41 1 1", "1 1 1 100001 1", "1 1 1 1 10001", "1 1 1 1 1 1") {
		if got, e := tally.Read(line); got != (api.Count{}) || e != api.ErrForm {
			t.Errorf("Read(%q): %v, error %d", line, got, e)
		}
	}
	for _, line := range append(badLines(6), "0 1 1 1 1 1", "1000001 1 1 1 1 1", "1 100001 1 1 1 1", "1 1 100001 1 1 1", "1 1 1 0 1 1", "1 1 1 41 1 1", "1 1 1 1 0 1", "1 1 1 1 100001 1", "1 1 1 1 1 200001", "1 1 1 1 1") {
		if got, e := tally.ReadRecount(line); got != (api.Recount{}) || e != api.ErrForm {
			t.Errorf("ReadRecount(%q): %v, error %d", line, got, e)
		}
	}
}

// P4.7.
func TestTextsAtRandom(t *testing.T) {
	r := random(41)
	readable := 0
	for range 5000 {
		c := randomCount(r)
		line, e := tally.Write(c)
		mustOK(t, "Write", e)
		if got, e := tally.Read(line); got != c || e != api.OK {
			t.Errorf("Read(%q): %v, error %d, want %v", line, got, e, c)
		}
		x := api.Recount{Id: c.Id, Day: c.Day, Known: r.IntN(api.MaxDay + 1), Shepherd: c.Shepherd, True: max(c.Number, 1), Number: randomNumber(r, 200000)}
		second, e := tally.WriteRecount(x)
		mustOK(t, "WriteRecount", e)
		if got, e := tally.ReadRecount(second); got != x || e != api.OK {
			t.Errorf("ReadRecount(%q): %v, error %d, want %v", second, got, e, x)
		}
		// A line with another letter is that of another one, or of none.
		changed := changedLine(r, line)
		if got, e := tally.Read(changed); e == api.OK {
			readable++
			if again, e := tally.Write(got); again != changed || e != api.OK {
				t.Errorf("Read(%q): %v, but its line is %q, error %d", changed, got, again, e)
			}
		}
		changed = changedLine(r, second)
		if got, e := tally.ReadRecount(changed); e == api.OK {
			readable++
			if again, e := tally.WriteRecount(got); again != changed || e != api.OK {
				t.Errorf("ReadRecount(%q): %v, but its line is %q, error %d", changed, got, again, e)
			}
		}
	}
	if readable < 1000 {
		t.Errorf("only %d changed lines could be read", readable)
	}
}

// changedLine returns a line with a letter more, or another one.
func changedLine(r interface{ IntN(int) int }, line string) string {
	at := r.IntN(len(line))
	letter := "0123456789 -+\n"
	next := r.IntN(len(letter))
	return line[:at] + letter[next:next+1] + line[at+r.IntN(2):]
}
