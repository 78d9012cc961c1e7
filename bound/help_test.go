package bound_test

import (
	"fmt"
	"math/rand/v2"
	"slices"
	"strings"
	"testing"

	"couchant/api"
	"couchant/bound"
	"couchant/fell"
)

func mustOK(t testing.TB, what string, e api.Errno) {
	t.Helper()
	if e != api.OK {
		t.Fatalf("%s: error %d", what, e)
	}
}

// parsed returns the fell of some lines.
func parsed(t testing.TB, lines ...string) api.Fell {
	t.Helper()
	f, fault := fell.ParseFell(strings.Join(lines, "\n"))
	if fault != (api.Fault{}) {
		t.Fatalf("ParseFell of %q: fault %v", lines, fault)
	}
	return f
}

// sample is the fell of the chapter's examples: high and low are heafs, the gap joins them, the lane leads from low to the yard.
func sample(t testing.TB) api.Fell {
	t.Helper()
	return parsed(t, "fell 2 0", "heaf high", "heaf low", "fold yard", "gate gap high low 20", "gate lane low yard 1000")
}

// The places of the sample.
const (
	high = iota
	low
	yard
)

// report returns the report of a line.
func report(t testing.TB, f api.Fell, line string) api.Report {
	t.Helper()
	x, e := fell.Read(f, line)
	mustOK(t, "Read of "+line, e)
	return x
}

// reports returns a log with some lines more.
func reports(t testing.TB, f api.Fell, l []api.Report, lines ...string) []api.Report {
	t.Helper()
	for _, line := range lines {
		longer, e := fell.Append(f, l, report(t, f, line))
		mustOK(t, "Append of "+line, e)
		l = longer
	}
	return l
}

// sampleLog is the log of the chapter's examples.
func sampleLog(t testing.TB) []api.Report {
	t.Helper()
	return reports(t, sample(t), nil, "1 0 stay 7 sheep high 0 10 10", "2 0 stay 7 sheep low 0 5 5", "3 0 stay 7 sheep yard 0 0 0", "4 2 pass 7 sheep lane 0 3 4", "5 3 stay 7 sheep high 2 9 9")
}

// doubtLog is that log with the report that contradicts others of it.
func doubtLog(t testing.TB) []api.Report {
	t.Helper()
	return reports(t, sample(t), sampleLog(t), "6 4 stay 7 sheep high 1 20 30")
}

// sheep is a figure of the sheep of owner 7.
func sheep(place, tick int) api.Figure {
	return api.Figure{Owner: 7, Sort: "sheep", Place: place, Tick: tick}
}

// sampleGatherings are those of the chapter's examples: in the yard, at low and at high at the tick 1.
func sampleGatherings() []api.Gathering {
	return []api.Gathering{{Place: yard, Tick: 1, Cost: 3}, {Place: low, Tick: 1, Cost: 5}, {Place: high, Tick: 1, Cost: 2}}
}

func random(seed uint64) *rand.Rand { return rand.New(rand.NewPCG(seed, 17)) }

// pick returns one of the items.
func pick[T any](r *rand.Rand, items ...T) T { return items[r.IntN(len(items))] }

// shape is how large a random fell is at most.
type shape struct{ ticks, yield, places, gates, most int }

// randomFell returns a valid fell of a shape.
func randomFell(r *rand.Rand, s shape) api.Fell {
	f := api.Fell{Ticks: 1 + r.IntN(s.ticks), Yield: pick(r, 0, r.IntN(s.yield+1))}
	for i := range 1 + r.IntN(s.places) {
		f.Places = append(f.Places, api.Place{Name: fmt.Sprintf("p%d", i), Kind: pick(r, api.PlaceHeaf, api.PlaceHeaf, api.PlaceFold)})
	}
	if len(f.Places) == 1 {
		return f
	}
	for i := range r.IntN(s.gates + 1) {
		ends := r.Perm(len(f.Places))
		f.Gates = append(f.Gates, api.Gate{Name: fmt.Sprintf("g%d", i), A: ends[0], B: ends[1], Most: r.IntN(s.most + 1)})
	}
	return f
}

// arcsOf returns the indices of all arcs, by their words.
func arcsOf(t testing.TB, f api.Fell) map[string]int {
	t.Helper()
	arcs := map[string]int{}
	for i := range fell.Arcs(f) {
		name, e := fell.NameArc(f, i)
		mustOK(t, "NameArc", e)
		arcs[name] = i
	}
	return arcs
}

// randomHistory lets beasts, so many at a place at the beginning at most, go about a fell, and returns the amounts of all arcs.
func randomHistory(t testing.TB, r *rand.Rand, f api.Fell, most int) []int {
	t.Helper()
	arcs := arcsOf(t, f)
	x := make([]int, len(arcs))
	here := make([]int, len(f.Places))
	for place, p := range f.Places {
		here[place] = r.IntN(most + 1)
		x[arcs["begin "+p.Name]] = here[place]
	}
	for step := range f.Ticks {
		left, next := slices.Clone(here), make([]int, len(f.Places))
		// move lets some of those who are left at a place go to another one, or from or to the outside (-1), as far as there is room.
		move := func(kind, name string, from, to, most int) {
			n := most
			if from >= 0 {
				n = min(n, left[from])
			}
			if to >= 0 {
				n = min(n, 1000-next[to]-left[to])
			}
			n = pick(r, 0, r.IntN(n+1))
			if from >= 0 {
				left[from] -= n
			}
			if to >= 0 {
				next[to] += n
			}
			x[arcs[fmt.Sprintf("%s %s %d", kind, name, step)]] = n
		}
		for _, g := range f.Gates {
			move("pass", g.Name, g.A, g.B, g.Most)
			move("back", g.Name, g.B, g.A, g.Most)
		}
		for place, p := range f.Places {
			x[arcs[fmt.Sprintf("stay %s %d", p.Name, step)]] = here[place]
			move("dead", p.Name, place, -1, f.Yield)
			move("sold", p.Name, place, -1, f.Yield)
			x[arcs[fmt.Sprintf("rest %s %d", p.Name, step)]] = left[place]
			next[place], left[place] = next[place]+left[place], 0
			move("born", p.Name, -1, place, f.Yield)
			move("bought", p.Name, -1, place, f.Yield)
		}
		here = next
	}
	for place, p := range f.Places {
		x[arcs[fmt.Sprintf("stay %s %d", p.Name, f.Ticks)]] = here[place]
		x[arcs["end "+p.Name]] = here[place]
	}
	return x
}

// randomReport returns a right report of an owner and a sort that is no void, which a history keeps, and whose ends are so far away from it at most.
func randomReport(t testing.TB, r *rand.Rand, f api.Fell, owner int, sort string, history []int, far int) api.Report {
	t.Helper()
	x := api.Report{Id: 1, Kind: uint8(pick(r, 1, 1, 1, 2, 3, 2, 3, 4, 5, 6, 7)), Owner: owner, Sort: sort}
	if len(f.Gates) == 0 && (x.Kind == api.ReportPass || x.Kind == api.ReportBack) {
		x.Kind = api.ReportStay
	}
	x.At, x.Tick = r.IntN(len(f.Places)), r.IntN(f.Ticks)
	switch x.Kind {
	case api.ReportStay:
		x.Tick = r.IntN(f.Ticks + 1)
	case api.ReportPass, api.ReportBack:
		x.At = r.IntN(len(f.Gates))
	}
	arc, e := fell.MoveArc(f, x)
	mustOK(t, "MoveArc", e)
	x.Low, x.High = max(history[arc]-r.IntN(far+1), 0), min(history[arc]+r.IntN(far+1), 1000)
	return x
}

// scene is a fell with a log of reports, most of them of the sheep of owner 7, and a history of them, which the reports keep unless they are faulty.
type scene struct {
	f       api.Fell
	l       []api.Report
	known   int
	history []int
	faulty  bool
}

// randomScene returns one with so many reports at most, of numbers up to most.
func randomScene(t testing.TB, r *rand.Rand, s shape, size, most int) scene {
	t.Helper()
	// Of the reports one in so many is faulty, 0: none.
	faults := pick(r, 0, 0, 2, 12)
	c := scene{f: randomFell(r, s), faulty: faults > 0}
	c.history = randomHistory(t, r, c.f, most)
	if most <= 3 {
		// What is at the beginning is told narrowly, so that there are few histories.
		width := pick(r, 1, 3, 3)
		for place := range c.f.Places {
			for _, sort := range []string{"sheep", "cow"} {
				arc, e := fell.NumberArc(c.f, place, 0)
				mustOK(t, "NumberArc", e)
				c.l = append(c.l, api.Report{Kind: api.ReportStay, Owner: 7, Sort: sort, At: place, Low: max(0, c.history[arc]-r.IntN(width)), High: c.history[arc] + r.IntN(width)})
			}
		}
	}
	other := randomHistory(t, r, c.f, most)
	for range r.IntN(size + 1) {
		history, far := c.history, pick(r, 0, 1, most)
		if c.faulty && r.IntN(faults) == 0 {
			history, far = other, pick(r, 0, 1)
		}
		x := randomReport(t, r, c.f, pick(r, 7, 7, 7, 7, 7, 3), pick(r, "sheep", "sheep", "sheep", "sheep", "cow"), history, far)
		c.l = append(c.l, x)
	}
	c.number(r)
	return c
}

// number gives the reports of a scene their Ids and days, and lays voids between them.
func (c *scene) number(r *rand.Rand) {
	ids := r.Perm(3 * (len(c.l) + 1))
	var l []api.Report
	add := func(x api.Report) {
		x.Id = 1 + ids[len(l)]
		if len(l) > 0 {
			x.Known = l[len(l)-1].Known + r.IntN(2)
		}
		l = append(l, x)
	}
	for _, x := range c.l {
		add(x)
		if at := r.IntN(len(l)); r.IntN(6) == 0 && l[at].Tick > 0 && !slices.ContainsFunc(l, func(y api.Report) bool { return y.Of == l[at].Id }) {
			add(api.Report{Kind: api.ReportVoid, Of: l[at].Id})
		}
	}
	c.l, c.known = l, 0
	if len(l) > 0 {
		last := l[len(l)-1].Known
		c.known = pick(r, last, last, last, last+1, last-1, r.IntN(last+1))
	}
}

// err adds a report of a number that is another one than in the history.
func (c *scene) err(t testing.TB, r *rand.Rand) {
	t.Helper()
	x := randomReport(t, r, c.f, 7, "sheep", c.history, 0)
	x.High = min(x.High+1+r.IntN(9), 1000)
	x.Low = x.High
	x.Id = 5000
	if len(c.l) > 0 {
		x.Known = c.l[len(c.l)-1].Known
	}
	c.known, c.faulty = max(c.known, x.Known), true
	c.l = append(c.l, x)
}

// net returns the network of the sheep of owner 7.
func (c scene) net(t testing.TB) api.Net {
	t.Helper()
	net, e := fell.NetOf(c.f, c.l, c.known, 7, "sheep")
	mustOK(t, "NetOf", e)
	return net
}

// figure returns one of a scene's sheep, at a place or on the fell.
func (c scene) figure(r *rand.Rand) api.Figure {
	return sheep(r.IntN(len(c.f.Places)+1)-1, r.IntN(c.f.Ticks+1))
}

// counting returns the reports of the sheep of owner 7 that count.
func (c scene) counting(t testing.TB) []api.Report {
	t.Helper()
	l, e := fell.Counting(c.f, c.l, c.known)
	mustOK(t, "Counting", e)
	return slices.DeleteFunc(l, func(x api.Report) bool { return x.Owner != 7 || x.Sort != "sheep" })
}

// gatherings returns some for a scene, whose costs are often alike.
func (c scene) gatherings(r *rand.Rand, size int) []api.Gathering {
	var g []api.Gathering
	for range r.IntN(size + 1) {
		g = append(g, api.Gathering{Place: r.IntN(len(c.f.Places)), Tick: r.IntN(c.f.Ticks + 1), Cost: pick(r, 0, 1, 1, 1, 2, 5, r.IntN(100001))})
	}
	return g
}

// idsOf returns the Ids of reports, ascending.
func idsOf(l []api.Report) []int {
	var ids []int
	for _, x := range l {
		ids = append(ids, x.Id)
	}
	slices.Sort(ids)
	return ids
}

// ends returns the ends of a figure.
func ends(t testing.TB, f api.Fell, l []api.Report, known int, x api.Figure) (int, int) {
	t.Helper()
	low, high, e := bound.Ends(f, l, known, x)
	mustOK(t, "Ends", e)
	return low, high
}

// table returns the ends of the numbers on the fell.
func table(t testing.TB, f api.Fell, l []api.Report, known, owner int, sort string) []api.Pair {
	t.Helper()
	pairs, e := bound.Table(f, l, known, owner, sort)
	mustOK(t, "Table", e)
	return pairs
}
