package fell_test

import (
	"fmt"
	"math/rand/v2"
	"slices"
	"strings"
	"testing"

	"couchant/api"
	"couchant/fell"
)

func mustOK(t testing.TB, what string, e api.Errno) {
	t.Helper()
	if e != api.OK {
		t.Fatalf("%s: error %d", what, e)
	}
}

// parsed returns the fell of some lines.
func parsed(t testing.TB, lines ...string) api.Fell {
	t.Helper()
	f, fault := fell.ParseFell(strings.Join(lines, "\n"))
	if fault != (api.Fault{}) {
		t.Fatalf("ParseFell of %q: fault %v", lines, fault)
	}
	return f
}

// sample is the fell of the chapter's examples: high and low are heafs, the gap joins them, the lane leads from low to the yard.
func sample(t testing.TB) api.Fell {
	return parsed(t, "fell 2 50", "heaf high", "heaf low", "fold yard", "gate gap high low 20", "gate lane low yard 1000")
}

// report returns the report of a line.
func report(t testing.TB, f api.Fell, line string) api.Report {
	t.Helper()
	x, e := fell.Read(f, line)
	mustOK(t, "Read of "+line, e)
	return x
}

// reports returns the log of some lines.
func reports(t testing.TB, f api.Fell, lines ...string) []api.Report {
	t.Helper()
	var l []api.Report
	for _, line := range lines {
		longer, e := fell.Append(f, l, report(t, f, line))
		mustOK(t, "Append of "+line, e)
		l = longer
	}
	return l
}

// sampleLog is a log of the sample: of two owners, two sorts of the first one, and one report of seven is withdrawn on day 4.
func sampleLog(t testing.TB) []api.Report {
	return reports(t, sample(t), "1 0 pass 7 sheep gap 0 5 9", "2 3 pass 7 sheep gap 0 7 30", "3 4 void 1", "9 4 stay 7 cow yard 2 0 4", "5 4 back 3 sheep lane 1 1 1", "6 6 born 7 sheep low 1 3 12", "7 9 void 6")
}

func random(seed uint64) *rand.Rand { return rand.New(rand.NewPCG(seed, 15)) }

// pick returns one of the items.
func pick[T any](r *rand.Rand, items ...T) T { return items[r.IntN(len(items))] }

// randomName returns a name, often a short one or a word of the layer.
func randomName(r *rand.Rand) string {
	letters := "abcdefghijklmnopqrstuvwxyz0123456789-"
	name := letters[r.IntN(26):][:1]
	for range pick(r, 0, 1, 2, r.IntN(24), 23) {
		name += letters[r.IntN(len(letters)):][:1]
	}
	return pick(r, name, name, name, "stay", "void", "rest", "fell", "heaf", "gate", "a", "b")
}

// randomNames returns so many different names.
func randomNames(r *rand.Rand, size int) []string {
	var names []string
	for len(names) < size {
		if name := randomName(r); !slices.Contains(names, name) {
			names = append(names, name)
		}
	}
	return names
}

// randomFell returns a valid fell, often a small one.
func randomFell(r *rand.Rand) api.Fell {
	f := api.Fell{Ticks: pick(r, 1, 2, 3, 1+r.IntN(24), 24), Yield: pick(r, 0, 1, r.IntN(50), r.IntN(1001), 1000)}
	for _, name := range randomNames(r, pick(r, 1, 2, 3, 4, 1+r.IntN(8), 8)) {
		f.Places = append(f.Places, api.Place{Name: name, Kind: pick(r, api.PlaceHeaf, api.PlaceFold)})
	}
	if len(f.Places) == 1 {
		return f
	}
	for _, name := range randomNames(r, pick(r, 0, 1, 2, 3, r.IntN(13), 12)) {
		ends := r.Perm(len(f.Places))
		f.Gates = append(f.Gates, api.Gate{Name: name, A: ends[0], B: ends[1], Most: pick(r, 0, 1, r.IntN(50), r.IntN(1001), 1000)})
	}
	return f
}

// The owners and sorts of random reports are few.
const owners = 3

func randomSort(r *rand.Rand) string { return pick(r, "sheep", "cow") }

// randomReport returns a right report that is no void, of a number around n if that is not less than 0.
func randomReport(r *rand.Rand, f api.Fell, n int) api.Report {
	x := api.Report{Id: 1 + r.IntN(api.MaxId), Known: r.IntN(api.MaxDay + 1), Kind: uint8(1 + r.IntN(7)), Owner: 1 + r.IntN(owners), Sort: randomSort(r)}
	if len(f.Gates) == 0 && isOfGate(x.Kind) {
		x.Kind = api.ReportStay
	}
	x.At = r.IntN(len(namesFor(f, x.Kind)))
	x.Tick = r.IntN(lastTick(f, x.Kind) + 1)
	if n < 0 {
		n = pick(r, 0, r.IntN(20), r.IntN(1001), 1000)
	}
	x.Low, x.High = max(n-r.IntN(10), 0), min(n+r.IntN(10), 1000)
	return x
}

// randomLog returns a log of up to size reports, whose days are few; the reports of a history if one is given.
func randomLog(r *rand.Rand, f api.Fell, size int, history []int) []api.Report {
	var l []api.Report
	known := 0
	ids := r.Perm(size * 3)
	for range r.IntN(size + 1) {
		known += r.IntN(2)
		x := randomReport(r, f, -1)
		if history != nil {
			n := history[arcOf(f, x)]
			x.Low, x.High = max(n-r.IntN(10), 0), min(n+r.IntN(10), 1000)
		}
		if of := namable(l); len(of) > 0 && r.IntN(5) == 0 {
			x = api.Report{Kind: api.ReportVoid, Of: pick(r, of...)}
		}
		x.Id, x.Known = 1+ids[len(l)], known
		l = append(l, x)
	}
	return l
}

// namable returns the Ids of a log that a void can name.
func namable(l []api.Report) []int {
	var ids []int
	for _, x := range l {
		if x.Kind != api.ReportVoid && !slices.ContainsFunc(l, func(y api.Report) bool { return y.Of == x.Id }) {
			ids = append(ids, x.Id)
		}
	}
	return ids
}

// randomHistory lets beasts go about a fell, and returns the amounts of all arcs.
func randomHistory(r *rand.Rand, f api.Fell) []int {
	amounts := map[string]int{}
	here := make([]int, len(f.Places))
	for place, p := range f.Places {
		here[place] = pick(r, 0, 1, r.IntN(20), r.IntN(200), 1000)
		amounts["begin "+p.Name] = here[place]
	}
	for step := range f.Ticks {
		left, next := slices.Clone(here), make([]int, len(f.Places))
		// move lets some of those who are left at a place go to another one, or from or to the outside (-1), as far as there is room.
		move := func(kind, name string, from, to, most int) {
			n := most
			if from >= 0 {
				n = min(n, left[from])
			}
			if to >= 0 {
				n = min(n, 1000-next[to]-left[to])
			}
			n = pick(r, 0, n, r.IntN(n+1))
			if from >= 0 {
				left[from] -= n
			}
			if to >= 0 {
				next[to] += n
			}
			amounts[fmt.Sprintf("%s %s %d", kind, name, step)] = n
		}
		for _, g := range f.Gates {
			move("pass", g.Name, g.A, g.B, g.Most)
			move("back", g.Name, g.B, g.A, g.Most)
		}
		for place, p := range f.Places {
			amounts[fmt.Sprintf("stay %s %d", p.Name, step)] = here[place]
			move("dead", p.Name, place, -1, f.Yield)
			move("sold", p.Name, place, -1, f.Yield)
			amounts[fmt.Sprintf("rest %s %d", p.Name, step)] = left[place]
			next[place], left[place] = next[place]+left[place], 0
			move("born", p.Name, -1, place, f.Yield)
			move("bought", p.Name, -1, place, f.Yield)
		}
		here = next
	}
	for place, p := range f.Places {
		amounts[fmt.Sprintf("stay %s %d", p.Name, f.Ticks)] = here[place]
		amounts["end "+p.Name] = here[place]
	}
	var x []int
	for _, arc := range modelArcs(f) {
		x = append(x, amounts[arc.name])
	}
	return x
}
