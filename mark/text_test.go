package mark_test

import (
	"strings"
	"testing"

	"couchant/api"
	"couchant/mark"
)

// B17.
func TestWriteAndRead(t *testing.T) {
	for line, m := range map[string]api.Mark{
		"1 0 100 cropped plain red bare bare bare":           {Owner: 1, Until: 100, Signs: [6]uint8{1, 0, 1, 0, 0, 0}},
		"40 100000 100000 plain cropped bare red blue green": {Owner: 40, From: 100000, Until: 100000, Signs: [6]uint8{0, 1, 0, 1, 2, 3}},
		"9 10 11 forked ritted black black black black":      {Owner: 9, From: 10, Until: 11, Signs: [6]uint8{2, 3, 4, 4, 4, 4}},
		"30 0 0 holed holed green blue red bare":             {Owner: 30, Signs: [6]uint8{4, 4, 3, 2, 1, 0}},
		"1 0 0 plain plain bare bare bare bare":              {Owner: 1},
		"2 99999 100000 ritted forked blue black bare black": {Owner: 2, From: 99999, Until: 100000, Signs: [6]uint8{3, 2, 2, 4, 0, 4}},
		"10 1 100000 cropped cropped black green blue red":   {Owner: 10, From: 1, Until: 100000, Signs: [6]uint8{1, 1, 4, 3, 2, 1}},
		"31 0 100000 plain plain black bare bare bare":       {Owner: 31, Until: 100000, Signs: [6]uint8{0, 0, 4, 0, 0, 0}},
	} {
		if got, e := mark.Write(m); got != line || e != api.OK {
			t.Errorf("Write(%v): %q, error %d, want %q", m, got, e, line)
		}
		if got, e := mark.Read(line); got != m || e != api.OK {
			t.Errorf("Read(%q): %v, error %d, want %v", line, got, e, m)
		}
	}
}

// B17.
func TestWriteAndReadSights(t *testing.T) {
	for line, s := range map[string]api.Sight{
		"cropped plain red bare bare bare":     {Signs: [6]uint8{1, 0, 1, 0, 0, 0}},
		"worn worn worn worn worn worn":        {Signs: [6]uint8{9, 9, 9, 9, 9, 9}},
		"plain plain bare bare bare bare":      {},
		"holed ritted black green blue red":    {Signs: [6]uint8{4, 3, 4, 3, 2, 1}},
		"worn forked bare worn black worn":     {Signs: [6]uint8{9, 2, 0, 9, 4, 9}},
		"ritted cropped worn blue worn green":  {Signs: [6]uint8{3, 1, 9, 2, 9, 3}},
		"forked worn green red red worn":       {Signs: [6]uint8{2, 9, 3, 1, 1, 9}},
		"cropped holed blue black green black": {Signs: [6]uint8{1, 4, 2, 4, 3, 4}},
		"plain worn worn worn worn blue":       {Signs: [6]uint8{0, 9, 9, 9, 9, 2}},
		"worn plain worn bare worn bare":       {Signs: [6]uint8{9, 0, 9, 0, 9, 0}},
	} {
		if got, e := mark.WriteSight(s); got != line || e != api.OK {
			t.Errorf("WriteSight(%v): %q, error %d, want %q", s, got, e, line)
		}
		if got, e := mark.ReadSight(line); got != s || e != api.OK {
			t.Errorf("ReadSight(%q): %v, error %d, want %v", line, got, e, s)
		}
	}
}

// B17: what is not as said has no line.
func TestWriteRefuses(t *testing.T) {
	for _, m := range []api.Mark{
		{}, {Owner: 0, Until: 9}, {Owner: 41}, {Owner: -1}, {Owner: 1, From: -1}, {Owner: 1, From: 2, Until: 1}, {Owner: 1, Until: 100001}, {Owner: 1, From: 100001, Until: 100001},
		{Owner: 1, Signs: [6]uint8{5}}, {Owner: 1, Signs: [6]uint8{0, 0, 0, 0, 0, 5}}, {Owner: 1, Signs: [6]uint8{9}}, {Owner: 1, Signs: [6]uint8{0, 0, 9}}, {Owner: 1, Signs: [6]uint8{0, 255}},
	} {
		if got, e := mark.Write(m); got != "" || e != api.ErrArg {
			t.Errorf("Write(%v): %q, error %d", m, got, e)
		}
	}
	for place := range api.MarkPlaces {
		for sign := range 256 {
			var s api.Sight
			s.Signs[place] = uint8(sign)
			want := api.ErrArg
			if sign <= 4 || sign == 9 {
				want = api.OK
			}
			if got, e := mark.WriteSight(s); e != want || (got == "") != (want != api.OK) {
				t.Errorf("WriteSight(%v): %q, error %d", s, got, e)
			}
		}
	}
}

// badSigns are words that are no line of a sight.
func badSigns() []string {
	return []string{
		"", " ", "plain", "plain plain bare bare bare", "plain plain bare bare bare bare bare", "plain plain bare bare bare bare ", " plain plain bare bare bare bare", "plain  plain bare bare bare bare",
		"plain plain bare bare bare bare\n", "plain plain bare bare bare bare\r", "plain\tplain bare bare bare bare", "Plain plain bare bare bare bare", "plain plain bare bare bare Bare",
		"bare plain bare bare bare bare", "plain red bare bare bare bare", "plain plain plain bare bare bare", "plain plain bare bare bare holed", "plain plain bare cropped bare bare",
		"plain plain bare bare bare white", "plain plain bare bare bare 0", "0 0 0 0 0 0", "plain plain bare bare bare wor", "plain plain bare bare bare wornn", "plain plain bare bare bare rea", "plain plain bare bare  bare",
		"plain plain bare bare bare \xff", "plain plain bare bare bare bare\x00", "plain,plain,bare,bare,bare,bare", strings.Repeat("plain ", 5000),
	}
}

// B17: what is no line.
func TestReadRefuses(t *testing.T) {
	lines := []string{
		"", "1", "1 0", "1 0 0", "1 0 0 ", "1 0 plain plain bare bare bare bare", "1 0 0 0 plain plain bare bare bare bare", "plain plain bare bare bare bare", "plain plain bare bare bare bare 1 0 0",
		"1 0 0  plain plain bare bare bare bare", " 1 0 0 plain plain bare bare bare bare", "1  0 0 plain plain bare bare bare bare",
		"1 0 0 worn plain bare bare bare bare", "1 0 0 plain plain bare bare bare worn",
	}
	for _, s := range badSigns() {
		lines = append(lines, "1 0 0 "+s)
	}
	for _, number := range []string{"", "x", "-1", "+1", "01", "00", "-0", "+0", "1.0", "1e0", "1_0", "0x1", "１", "١", "100001", "18446744073709551617", "9223372036854775808", "-9223372036854775809", strings.Repeat("9", 5000)} {
		for at := range 3 {
			words := []string{"1", "1", "1", "plain plain bare bare bare bare"}
			words[at] = number
			lines = append(lines, strings.Join(words, " "))
		}
	}
	lines = append(lines, "0 0 0 plain plain bare bare bare bare", "41 0 0 plain plain bare bare bare bare", "1 2 1 plain plain bare bare bare bare", "1 100001 100001 plain plain bare bare bare bare")
	for _, line := range lines {
		if got, e := mark.Read(line); got != (api.Mark{}) || e != api.ErrForm {
			t.Errorf("Read(%q): %v, error %d", line, got, e)
		}
	}
	for _, line := range append(badSigns(), "1 0 0 plain plain bare bare bare bare", "1 plain bare bare bare bare") {
		if got, e := mark.ReadSight(line); got != (api.Sight{}) || e != api.ErrForm {
			t.Errorf("ReadSight(%q): %v, error %d", line, got, e)
		}
	}
}

// P3.9.
func TestTextsAtRandom(t *testing.T) {
	r := random(41)
	readable := 0
	all := strings.Fields("plain cropped forked ritted holed bare red blue green black worn 0 1 41 x")
	for range 3000 {
		m := api.Mark{Owner: 1 + r.IntN(40), From: r.IntN(api.MaxDay + 1)}
		m.Until = m.From + r.IntN(api.MaxDay-m.From+1)
		var s api.Sight
		for place := range m.Signs {
			m.Signs[place] = uint8(r.IntN(5))
			s.Signs[place] = pick(r, m.Signs[place], api.Worn)
		}
		line, e := mark.Write(m)
		mustOK(t, "Write", e)
		if got, e := mark.Read(line); got != m || e != api.OK {
			t.Errorf("Read(%q): %v, error %d, want %v", line, got, e, m)
		}
		seen, e := mark.WriteSight(s)
		mustOK(t, "WriteSight", e)
		if got, e := mark.ReadSight(seen); got != s || e != api.OK {
			t.Errorf("ReadSight(%q): %v, error %d, want %v", seen, got, e, s)
		}
		// A line with another word is that of another mark, or sight, or of none.
		words := strings.Split(line, " ")
		words[r.IntN(len(words))] = pick(r, all...)
		changed := strings.Join(words, " ")
		if got, e := mark.Read(changed); e == api.OK {
			readable++
			if again, e := mark.Write(got); again != changed || e != api.OK {
				t.Errorf("Read(%q): %v, but its line is %q, error %d", changed, got, again, e)
			}
		}
		changed = strings.Join(words[3:], " ")
		if got, e := mark.ReadSight(changed); e == api.OK {
			if again, e := mark.WriteSight(got); again != changed || e != api.OK {
				t.Errorf("ReadSight(%q): %v, but its line is %q, error %d", changed, got, again, e)
			}
		}
	}
	if readable < 300 {
		t.Errorf("only %d changed lines were those of marks", readable)
	}
}
