package mark_test

import (
	"slices"
	"testing"

	"couchant/api"
	"couchant/mark"
)

// many returns n marks that are valid together: each of another day.
func many(n int) []api.Mark {
	var l []api.Mark
	for day := range n {
		l = append(l, api.Mark{Owner: 1, From: day, Until: day})
	}
	return l
}

// allFades returns all the 16 fades that there are.
func allFades() []api.Fade {
	var l []api.Fade
	for sign := range uint8(4) {
		for seen := range uint8(5) {
			if seen != sign+1 {
				l = append(l, api.Fade{Sign: sign + 1, Seen: seen})
			}
		}
	}
	return l
}

// B1: what a mark and a fade may be.
func TestCheckSmitsOfOne(t *testing.T) {
	good := api.Mark{Owner: 1, From: 3, Until: 7, Signs: [6]uint8{4, 0, 4, 0, 1, 2}}
	for _, c := range []struct {
		change func(m *api.Mark)
		want   api.Errno
	}{
		{func(m *api.Mark) {}, api.OK},
		{func(m *api.Mark) { m.Owner = 0 }, api.ErrArg},
		{func(m *api.Mark) { m.Owner = -1 }, api.ErrArg},
		{func(m *api.Mark) { m.Owner = 40 }, api.OK},
		{func(m *api.Mark) { m.Owner = 41 }, api.ErrArg},
		{func(m *api.Mark) { m.From = 0 }, api.OK},
		{func(m *api.Mark) { m.From = -1 }, api.ErrArg},
		{func(m *api.Mark) { m.From = 7 }, api.OK},
		{func(m *api.Mark) { m.From = 8 }, api.ErrArg},
		{func(m *api.Mark) { m.Until = 100000 }, api.OK},
		{func(m *api.Mark) { m.Until = 100001 }, api.ErrArg},
		{func(m *api.Mark) { m.From, m.Until = 100001, 100001 }, api.ErrArg},
		{func(m *api.Mark) { m.Signs = [6]uint8{} }, api.OK},
		{func(m *api.Mark) { m.Signs = [6]uint8{4, 4, 4, 4, 4, 4} }, api.OK},
		{func(m *api.Mark) { m.Signs[0] = 5 }, api.ErrArg},
		{func(m *api.Mark) { m.Signs[5] = 5 }, api.ErrArg},
		{func(m *api.Mark) { m.Signs[2] = api.Worn }, api.ErrArg},
		{func(m *api.Mark) { m.Signs[3] = 255 }, api.ErrArg},
	} {
		m := good
		c.change(&m)
		if e := mark.CheckSmits(api.Smits{Marks: []api.Mark{m}}); e != c.want {
			t.Errorf("CheckSmits of %v: error %d, want %d", m, e, c.want)
		}
	}
	for sign := range uint8(7) {
		for seen := range uint8(12) {
			want := api.ErrArg
			if sign >= 1 && sign <= 4 && seen <= 4 && seen != sign {
				want = api.OK
			}
			if e := mark.CheckSmits(api.Smits{Fades: []api.Fade{{Sign: sign, Seen: seen}}}); e != want {
				t.Errorf("CheckSmits of the fade %d to %d: error %d, want %d", sign, seen, e, want)
			}
		}
	}
}

// B1: which marks may be in force together.
func TestCheckSmitsOfTwo(t *testing.T) {
	one := "1 5 9 cropped plain red bare bare bare"
	for _, c := range []struct {
		two  string
		want api.Errno
	}{
		{"1 9 12 plain plain bare bare bare bare", api.ErrTwice},
		{"1 10 12 plain plain bare bare bare bare", api.OK},
		{"1 0 5 plain plain bare bare bare bare", api.ErrTwice},
		{"1 0 4 plain plain bare bare bare bare", api.OK},
		{"1 6 7 plain plain bare bare bare bare", api.ErrTwice},
		{"1 0 100 plain plain bare bare bare bare", api.ErrTwice},
		{"2 9 12 cropped plain red bare bare bare", api.ErrTwice},
		{"2 10 12 cropped plain red bare bare bare", api.OK},
		{"2 0 5 cropped plain red bare bare bare", api.ErrTwice},
		{"2 0 4 cropped plain red bare bare bare", api.OK},
		{"2 7 7 cropped plain red bare bare bare", api.ErrTwice},
		{"2 0 100 cropped plain red bare bare bare", api.ErrTwice},
		{"1 10 12 cropped plain red bare bare bare", api.OK},
		{"1 9 12 cropped plain red bare bare bare", api.ErrTwice},
		{"2 5 9 cropped plain red bare bare red", api.OK},
		{"2 5 9 plain cropped red bare bare bare", api.OK},
		{"2 5 9 cropped plain bare red bare bare", api.OK},
	} {
		for _, b := range []api.Smits{smits(t, one, c.two), smits(t, c.two, one), smits(t, one, "9 0 100 holed holed bare bare bare bare", c.two)} {
			if e := mark.CheckSmits(b); e != c.want {
				t.Errorf("CheckSmits of %v: error %d, want %d", b, e, c.want)
			}
		}
	}
	b := sample(t)
	if e := mark.CheckSmits(b); e != api.OK {
		t.Errorf("CheckSmits: error %d", e)
	}
	b.Marks = append(b.Marks, smits(t, "4 50 60 cropped plain blue bare bare bare").Marks...)
	if e := mark.CheckSmits(b); e != api.ErrTwice {
		t.Errorf("CheckSmits with the signs of 2 once more: error %d", e)
	}
}

// B1: fades and limits, and which error comes first.
func TestCheckSmitsOfMany(t *testing.T) {
	fades, badMark := allFades(), api.Mark{Owner: 41}
	twice := append(slices.Clone(fades), fades[3])
	for _, c := range []struct {
		name string
		b    api.Smits
		want api.Errno
	}{
		{"nothing", api.Smits{}, api.OK},
		{"100 marks and all fades", api.Smits{Marks: many(100), Fades: fades}, api.OK},
		{"101 marks", api.Smits{Marks: many(101)}, api.ErrLimit},
		{"101 marks, a bad one", api.Smits{Marks: append(many(100), badMark)}, api.ErrLimit},
		{"100 marks, a bad one", api.Smits{Marks: append(many(99), badMark)}, api.ErrArg},
		{"a fade twice", api.Smits{Fades: twice}, api.ErrTwice},
		{"20 fades", api.Smits{Fades: append(slices.Clone(fades), fades[:4]...)}, api.ErrTwice},
		{"21 fades", api.Smits{Fades: append(slices.Clone(fades), fades[:5]...)}, api.ErrLimit},
		{"21 fades, a bad mark", api.Smits{Marks: []api.Mark{badMark}, Fades: make([]api.Fade, 21)}, api.ErrLimit},
		{"a fade twice, a bad mark", api.Smits{Marks: []api.Mark{badMark}, Fades: twice}, api.ErrArg},
		{"a mark twice, a bad fade", api.Smits{Marks: append(many(5), many(1)...), Fades: []api.Fade{{}}}, api.ErrArg},
		{"a mark twice, a bad one", api.Smits{Marks: append(append(many(5), many(1)...), badMark)}, api.ErrArg},
		{"a fade twice, a bad one", api.Smits{Fades: append(slices.Clone(twice), api.Fade{})}, api.ErrArg},
		{"a fade there and back", api.Smits{Fades: []api.Fade{{Sign: 1, Seen: 2}, {Sign: 2, Seen: 1}}}, api.OK},
	} {
		if e := mark.CheckSmits(c.b); e != c.want {
			t.Errorf("%s: error %d, want %d", c.name, e, c.want)
		}
	}
}

// B2.
func TestInForce(t *testing.T) {
	b := smits(t, "7 5 9 cropped plain red bare bare bare", "2 9 12 plain plain bare bare bare bare", "40 9 9 holed plain bare bare bare bare",
		"7 10 11 plain holed bare bare bare bare", "1 100000 100000 plain plain bare bare bare bare")
	for day, want := range map[int][]int{0: nil, 4: nil, 5: {0}, 9: {1, 0, 2}, 10: {1, 3}, 11: {1, 3}, 12: {1}, 13: nil, 100000: {4}} {
		got, e := mark.InForce(b, day)
		mustOK(t, "InForce", e)
		var marks []api.Mark
		for _, i := range want {
			marks = append(marks, b.Marks[i])
		}
		if !slices.Equal(got, marks) {
			t.Errorf("InForce on the day %d: %v, want %v", day, got, marks)
		}
		for owner := 1; owner <= api.MaxOwner; owner++ {
			at := slices.IndexFunc(marks, func(m api.Mark) bool { return m.Owner == owner })
			m, e := mark.MarkOf(b, day, owner)
			if at < 0 && (m != api.Mark{} || e != api.ErrNone) || at >= 0 && (m != marks[at] || e != api.OK) {
				t.Errorf("MarkOf on the day %d of %d: %v, error %d", day, owner, m, e)
			}
		}
	}
}
