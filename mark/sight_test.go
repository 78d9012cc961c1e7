package mark_test

import (
	"slices"
	"testing"

	"couchant/api"
	"couchant/mark"
)

// B3 to B5.
func TestOwners(t *testing.T) {
	b := sample(t)
	for _, c := range []struct {
		line string
		day  int
		want []int
	}{
		{"cropped plain red bare bare bare", 0, []int{1}},
		{"cropped plain bare bare bare bare", 0, []int{1, 2}},
		{"worn worn red bare bare bare", 0, []int{1}},
		{"worn worn red bare bare bare", 10, []int{1, 3}},
		{"worn worn red bare bare bare", 9, []int{1}},
		{"worn worn red bare bare bare", 100, []int{1, 3}},
		{"worn worn red bare bare bare", 101, nil},
		{"worn worn worn worn worn worn", 10, []int{1, 2, 3}},
		{"worn worn worn worn worn worn", 0, []int{1, 2}},
		{"plain plain bare bare bare bare", 10, nil},
		{"plain worn bare bare bare bare", 10, []int{3}},
		{"plain forked bare red bare bare", 10, []int{3}},
		{"plain forked bare red bare red", 10, nil},
		{"cropped plain blue bare bare bare", 10, []int{2}},
		{"cropped plain green bare bare bare", 10, nil},
	} {
		s := sight(t, c.line)
		if got, e := mark.Owners(b, c.day, s); !slices.Equal(got, c.want) || e != api.OK {
			t.Errorf("Owners of %q on the day %d: %v, error %d, want %v", c.line, c.day, got, e, c.want)
		}
		for owner := 1; owner <= api.MaxOwner; owner++ {
			if got, e := mark.Fits(b, c.day, s, owner); got != slices.Contains(c.want, owner) || e != api.OK {
				t.Errorf("Fits of %q on the day %d and %d: %v, error %d", c.line, c.day, owner, got, e)
			}
		}
		want, one := 0, len(c.want) == 1
		if one {
			want = c.want[0]
		}
		if owner, ok, e := mark.Sure(b, c.day, s); owner != want || ok != one || e != api.OK {
			t.Errorf("Sure of %q on the day %d: %d, %v, error %d", c.line, c.day, owner, ok, e)
		}
	}
}

// The terminology: at the ears nothing fades; a sign is seen by one fade, not by two; a fade does not lead back.
func TestFades(t *testing.T) {
	b := smits(t, "1 0 0 cropped plain red red red red", "fade 1 2", "fade 2 3", "fade 1 0")
	for line, want := range map[string]bool{
		"cropped plain red red red red": true, "cropped plain blue red red red": true, "cropped plain bare blue red bare": true, "cropped plain blue blue blue blue": true,
		"cropped plain green red red red": false, "cropped plain red red red green": false,
		"forked plain red red red red": false, "plain plain red red red red": false, "cropped cropped red red red red": false, "cropped worn red red red red": true,
	} {
		if got, e := mark.Fits(b, 0, sight(t, line), 1); got != want || e != api.OK {
			t.Errorf("Fits of %q: %v, error %d", line, got, e)
		}
	}
	back := smits(t, "1 0 0 cropped plain blue bare bare bare", "fade 1 2", "fade 1 0")
	for line, want := range map[string]bool{"cropped plain blue bare bare bare": true, "cropped plain red bare bare bare": false, "cropped plain blue red bare bare": false} {
		if got, e := mark.Fits(back, 0, sight(t, line), 1); got != want || e != api.OK {
			t.Errorf("Fits of %q, when red is seen as blue: %v, error %d", line, got, e)
		}
	}
}

// B6 and B7.
func TestAlike(t *testing.T) {
	b := sample(t)
	for _, c := range []struct {
		day, one, two int
		line          string
		e             api.Errno
	}{
		{0, 1, 2, "cropped plain bare bare bare bare", api.OK},
		{0, 2, 1, "cropped plain bare bare bare bare", api.OK},
		{0, 1, 1, "cropped plain bare bare bare bare", api.OK},
		{10, 3, 3, "plain forked bare bare bare bare", api.OK},
		{10, 1, 3, "", api.OK},
		{9, 1, 3, "", api.ErrNone},
		{9, 3, 1, "", api.ErrNone},
		{9, 3, 3, "", api.ErrNone},
		{10, 4, 1, "", api.ErrNone},
		{101, 1, 2, "", api.ErrNone},
	} {
		var want api.Sight
		if c.line != "" {
			want = sight(t, c.line)
		}
		if s, ok, e := mark.Alike(b, c.day, c.one, c.two); s != want || ok != (c.line != "") || e != c.e {
			t.Errorf("Alike on the day %d of %d and %d: %v, %v, error %d", c.day, c.one, c.two, s, ok, e)
		}
	}
	// Without a way to be seen bare, the first sight that fits both has another sign.
	b = smits(t, "1 0 0 holed ritted red black bare blue", "2 0 0 holed ritted blue black bare green", "fade 1 4", "fade 2 4", "fade 2 3", "fade 1 3")
	if s, ok, e := mark.Alike(b, 0, 1, 2); s != sight(t, "holed ritted green black bare green") || !ok || e != api.OK {
		t.Errorf("Alike: %v, %v, error %d", s, ok, e)
	}
}

func TestMistaken(t *testing.T) {
	b := sample(t)
	for day, want := range map[int][]api.Pair{0: {{A: 1, B: 2}}, 10: {{A: 1, B: 2}}, 101: nil} {
		if got, e := mark.Mistaken(b, day); !slices.Equal(got, want) || e != api.OK {
			t.Errorf("Mistaken on the day %d: %v, error %d", day, got, e)
		}
	}
	b = smits(t, "30 0 9 plain plain red bare bare bare", "4 0 9 plain plain blue bare bare bare", "40 0 9 plain plain bare bare bare bare", "2 0 9 plain plain green bare bare bare",
		"1 5 9 plain plain black bare bare bare", "fade 1 0", "fade 2 0", "fade 3 4", "fade 4 2")
	for day, want := range map[int][]api.Pair{
		0: {{A: 4, B: 30}, {A: 4, B: 40}, {A: 30, B: 40}},
		5: {{A: 1, B: 2}, {A: 1, B: 4}, {A: 4, B: 30}, {A: 4, B: 40}, {A: 30, B: 40}},
	} {
		if got, e := mark.Mistaken(b, day); !slices.Equal(got, want) || e != api.OK {
			t.Errorf("Mistaken on the day %d: %v, error %d, want %v", day, got, e, want)
		}
	}
}

// B8.
func TestApart(t *testing.T) {
	b := smits(t, "fade 1 0", "fade 2 0", "fade 3 4")
	for _, c := range []struct {
		a, c string
		want int
	}{
		{"cropped plain red bare bare bare", "cropped plain blue bare bare bare", 0},
		{"cropped plain red bare bare bare", "plain forked red red bare bare", 2},
		{"plain plain bare bare bare bare", "plain plain bare bare bare bare", 0},
		{"plain cropped green green red black", "cropped plain black red blue green", 3},
		{"plain plain bare bare bare bare", "holed holed black black black black", 6},
		{"plain plain bare bare bare bare", "holed holed red green black blue", 4},
	} {
		for _, pair := range [][]api.Sight{sights(t, c.a, c.c), sights(t, c.c, c.a)} {
			if got, e := mark.Apart(b, pair[0], pair[1]); got != c.want || e != api.OK {
				t.Errorf("Apart of %v: %d, error %d, want %d", pair, got, e, c.want)
			}
		}
	}
	clear := sight(t, "plain plain bare bare bare bare")
	for _, s := range []api.Sight{sight(t, "plain worn bare bare bare bare"), sight(t, "plain plain bare bare bare worn"), {Signs: [6]uint8{5}}, {Signs: [6]uint8{0, 0, 0, 0, 0, 255}}} {
		for _, pair := range [][]api.Sight{{s, clear}, {clear, s}, {s, s}} {
			if got, e := mark.Apart(b, pair[0], pair[1]); got != 0 || e != api.ErrArg {
				t.Errorf("Apart of %v: %d, error %d", pair, got, e)
			}
		}
	}
}

// crowd returns 25 marks: one for each pair of ears.
func crowd() api.Smits {
	b := api.Smits{Fades: []api.Fade{{Sign: 1}, {Sign: 2}, {Sign: 3}, {Sign: 4}}}
	for left := range uint8(5) {
		for right := range uint8(5) {
			b.Marks = append(b.Marks, api.Mark{Owner: 1 + len(b.Marks), Until: 9, Signs: [6]uint8{left, right, left, right}})
		}
	}
	return b
}

// B9.
func TestFree(t *testing.T) {
	all := crowd()
	none := api.Sight{}
	if s, e := mark.Free(all, 9); s != none || e != api.ErrNone {
		t.Errorf("Free, when everything may be bare: %v, error %d", s, e)
	}
	if s, e := mark.Free(all, 10); s != none || e != api.OK {
		t.Errorf("Free, when no mark is in force: %v, error %d", s, e)
	}
	but := all
	but.Marks = append(slices.Clone(all.Marks[:13]), all.Marks[14:]...) // without forked ritted
	if s, e := mark.Free(but, 9); s != sight(t, "forked ritted bare bare bare bare") || e != api.OK {
		t.Errorf("Free, when one pair of ears is free: %v, error %d", s, e)
	}
	less := all
	less.Fades = all.Fades[:3] // black does not fade: no mark above has it at the rump, or the side
	if s, e := mark.Free(less, 9); s != sight(t, "plain plain bare bare bare black") || e != api.OK {
		t.Errorf("Free, when black does not fade: %v, error %d", s, e)
	}
	if s, e := mark.Free(sample(t), 0); s != sight(t, "plain plain bare bare bare bare") || e != api.OK {
		t.Errorf("Free: %v, error %d", s, e)
	}
}

// B2 to B9, against the chapter's words.
func TestSightsAgainstModel(t *testing.T) {
	r := random(31)
	clear := clearSights()
	for range 200 {
		b, day := randomSmits(r), r.IntN(lastDay)
		marks := marksOn(b, day)
		if got, e := mark.InForce(b, day); !slices.Equal(got, marks) || e != api.OK {
			t.Fatalf("InForce(%v, %d): %v, error %d", b, day, got, e)
		}
		for range 10 {
			s := randomSight(r, b, day)
			want := fitting(b, day, s)
			if got, e := mark.Owners(b, day, s); !slices.Equal(got, want) || e != api.OK {
				t.Errorf("Owners(%v, %d, %v): %v, error %d, want %v", b, day, s, got, e, want)
			}
		}
		var pairs []api.Pair
		for _, one := range marks {
			for _, two := range marks {
				at := slices.IndexFunc(clear, func(s api.Sight) bool { return fits(b, one.Signs, s) && fits(b, two.Signs, s) })
				var want api.Sight
				if at >= 0 {
					want = clear[at]
				}
				if at >= 0 && one.Owner < two.Owner {
					pairs = append(pairs, api.Pair{A: one.Owner, B: two.Owner})
				}
				if got, ok, e := mark.Alike(b, day, one.Owner, two.Owner); got != want || ok != (at >= 0) || e != api.OK {
					t.Errorf("Alike(%v, %d, %d, %d): %v, %v, error %d, want %v", b, day, one.Owner, two.Owner, got, ok, e, want)
				}
				if got, e := mark.Apart(b, api.Sight{Signs: one.Signs}, api.Sight{Signs: two.Signs}); got != apart(b, one.Signs, two.Signs) || e != api.OK {
					t.Errorf("Apart(%v, %v, %v): %d, error %d", b, one.Signs, two.Signs, got, e)
				}
			}
		}
		if got, e := mark.Mistaken(b, day); !slices.Equal(got, pairs) || e != api.OK {
			t.Errorf("Mistaken(%v, %d): %v, error %d, want %v", b, day, got, e, pairs)
		}
		at := slices.IndexFunc(clear, func(s api.Sight) bool {
			return !slices.ContainsFunc(marks, func(m api.Mark) bool { return apart(b, m.Signs, s.Signs) == 0 })
		})
		if got, e := mark.Free(b, day); at < 0 || got != clear[at] || e != api.OK {
			t.Errorf("Free(%v, %d): %v, error %d", b, day, got, e)
		}
	}
}

// apart says in the chapter's words at how many places beasts cannot be seen alike.
func apart(b api.Smits, x, y [api.MarkPlaces]uint8) int {
	n := 0
	for place := range x {
		common := false
		for v := range uint8(api.MaxSign + 1) {
			common = common || seenAs(b, place, x[place], v) && seenAs(b, place, y[place], v)
		}
		if !common {
			n++
		}
	}
	return n
}
