package mark_test

import (
	"math/rand/v2"
	"slices"
	"strings"
	"testing"

	"couchant/api"
	"couchant/mark"
)

// smits returns the smits of some lines: those of marks, or `fade SIGN SEEN` with numbers.
func smits(t testing.TB, lines ...string) api.Smits {
	t.Helper()
	var b api.Smits
	for _, line := range lines {
		if rest, ok := strings.CutPrefix(line, "fade "); ok {
			b.Fades = append(b.Fades, api.Fade{Sign: rest[0] - '0', Seen: rest[2] - '0'})
			continue
		}
		m, e := mark.Read(line)
		mustOK(t, "Read of "+line, e)
		b.Marks = append(b.Marks, m)
	}
	return b
}

// sample is the smits of the chapter's examples.
func sample(t testing.TB) api.Smits {
	return smits(t, "1 0 100 cropped plain red bare bare bare", "2 0 100 cropped plain blue bare bare bare",
		"3 10 100 plain forked red red bare bare", "fade 1 0", "fade 2 0")
}

// sights returns the sights of some lines.
func sights(t testing.TB, lines ...string) []api.Sight {
	t.Helper()
	var l []api.Sight
	for _, line := range lines {
		s, e := mark.ReadSight(line)
		mustOK(t, "ReadSight of "+line, e)
		l = append(l, s)
	}
	return l
}

func sight(t testing.TB, line string) api.Sight {
	t.Helper()
	return sights(t, line)[0]
}

// sampleFound is the found beasts of the chapter's examples: two that fit 1 and 2, one that fits 1.
func sampleFound(t testing.TB) []api.Sight {
	return sights(t, "cropped plain bare bare bare bare", "cropped plain bare bare bare bare", "cropped plain red bare bare bare")
}

// claims returns claims of pairs: an owner, and how many.
func claims(pairs ...int) []api.Claim {
	var l []api.Claim
	for i := 0; i < len(pairs); i += 2 {
		l = append(l, api.Claim{Owner: pairs[i], Number: pairs[i+1]})
	}
	return l
}

func mustOK(t testing.TB, what string, e api.Errno) {
	t.Helper()
	if e != api.OK {
		t.Fatalf("%s: error %d", what, e)
	}
}

func random(seed uint64) *rand.Rand { return rand.New(rand.NewPCG(seed, 13)) }

// pick returns one of the items.
func pick[T any](r *rand.Rand, items ...T) T { return items[r.IntN(len(items))] }

// lastDay is behind every day of random smits but MaxDay.
const lastDay = 6

// owners are those who are in random smits.
func owners() []int { return []int{1, 2, 3, 4, 5, 40} }

// randomSigns returns signs of which few are not 0, so that marks resemble one another.
func randomSigns(r *rand.Rand) [api.MarkPlaces]uint8 {
	s := [api.MarkPlaces]uint8{2: uint8(r.IntN(5))}
	s[r.IntN(2)] = pick[uint8](r, 0, 0, 0, 1)
	s[3+r.IntN(3)] = pick[uint8](r, 0, 0, 1, 2)
	return s
}

func randomMark(r *rand.Rand) api.Mark {
	m := api.Mark{Owner: pick(r, owners()...), From: r.IntN(lastDay), Signs: randomSigns(r)}
	m.Until = pick(r, m.From+r.IntN(lastDay-m.From), lastDay, api.MaxDay)
	return m
}

func randomFade(r *rand.Rand) api.Fade {
	f := api.Fade{Sign: uint8(1 + r.IntN(4))}
	f.Seen = pick(r, 0, (f.Sign+uint8(1+r.IntN(4)))%5)
	return f
}

// randomSmits returns valid smits with few owners, days and signs, so that they meet.
func randomSmits(r *rand.Rand) api.Smits {
	var b api.Smits
	for range 4 + r.IntN(20) {
		longer := api.Smits{Marks: append(slices.Clone(b.Marks), randomMark(r)), Fades: b.Fades}
		if mark.CheckSmits(longer) == api.OK {
			b = longer
		}
	}
	for range r.IntN(9) {
		longer := api.Smits{Marks: b.Marks, Fades: append(slices.Clone(b.Fades), randomFade(r))}
		if mark.CheckSmits(longer) == api.OK {
			b = longer
		}
	}
	return b
}

// randomSight returns what may be seen on a beast on a day, or something else.
func randomSight(r *rand.Rand, b api.Smits, day int) api.Sight {
	s := api.Sight{Signs: randomSigns(r)}
	if marks := marksOn(b, day); len(marks) > 0 && r.IntN(8) > 0 {
		s.Signs = pick(r, marks...).Signs
	}
	for place, sign := range s.Signs {
		for _, f := range b.Fades {
			if place > 1 && f.Sign == sign && r.IntN(2) == 0 {
				s.Signs[place] = f.Seen
			}
		}
		if r.IntN(3) == 0 {
			s.Signs[place] = pick[uint8](r, 0, 1, api.Worn, api.Worn, api.Worn, api.Worn, api.Worn, api.Worn)
		}
	}
	return s
}

func randomFound(r *rand.Rand, b api.Smits, day, most int) []api.Sight {
	var l []api.Sight
	for range r.IntN(most + 1) {
		l = append(l, randomSight(r, b, day))
	}
	return l
}

// randomClaims returns claims to found beasts, in any order: mostly those that some assignment meets, or nearly so.
func randomClaims(r *rand.Rand, b api.Smits, day int, found []api.Sight, most int) []api.Claim {
	var l []api.Claim
	for _, i := range r.Perm(len(owners()))[:r.IntN(most+1)] {
		l = append(l, api.Claim{Owner: owners()[i]})
	}
	for _, s := range found {
		var fit []int
		for i, c := range l {
			if slices.Contains(fitting(b, day, s), c.Owner) {
				fit = append(fit, i)
			}
		}
		if len(fit) > 0 && r.IntN(8) > 0 {
			l[pick(r, fit...)].Number++
		}
	}
	if len(l) > 0 && r.IntN(2) == 0 {
		l[r.IntN(len(l))].Number = r.IntN(3)
	}
	return l
}
