package fell_test

import (
	"fmt"
	"math/rand/v2"
	"slices"
	"testing"

	"couchant/api"
	"couchant/fell"
)

// P5.1, for fells: each is changed in a few things.
func TestCheckFellAtRandom(t *testing.T) {
	r := random(41)
	seen := map[api.Errno]int{}
	for range 20000 {
		f := randomFell(r)
		for range r.IntN(3) {
			spoilFell(r, &f)
		}
		want := fellError(f)
		if got := fell.CheckFell(f); got != want {
			t.Fatalf("CheckFell(%v): error %d, want %d", f, got, want)
		}
		seen[want]++
	}
	for _, e := range []api.Errno{api.OK, api.ErrLimit, api.ErrNone, api.ErrForm, api.ErrTwice, api.ErrArg, api.ErrPlace} {
		if seen[e] < 300 {
			t.Errorf("error %d came %d times", e, seen[e])
		}
	}
}

// spoilFell changes something of a fell, often so that it is not valid any more.
func spoilFell(r *rand.Rand, f *api.Fell) {
	changes := []func(){
		func() { f.Ticks = pick(r, 0, 25, r.IntN(30)-3) },
		func() { f.Yield = pick(r, -1, 1001, r.IntN(1100)-50) },
		func() { f.Places = append(f.Places, api.Place{Name: randomName(r), Kind: 1}) },
		func() { f.Gates = append(f.Gates, api.Gate{Name: randomName(r), A: r.IntN(10) - 1, B: r.IntN(10) - 1}) },
	}
	if len(f.Places) > 0 {
		p := &f.Places[r.IntN(len(f.Places))]
		changes = append(changes, func() { p.Name = pick(r, "", "A", f.Places[0].Name, randomName(r)) }, func() { p.Kind = pick(r, uint8(0), 1, 2, 3, 255) })
	}
	if len(f.Gates) > 0 {
		g := &f.Gates[r.IntN(len(f.Gates))]
		changes = append(changes, func() { g.Name = pick(r, "", "-", f.Gates[0].Name, randomName(r)) }, func() { g.Most = pick(r, -1, 1001, r.IntN(1100)-50) },
			func() { g.A = pick(r, -1, g.B, r.IntN(9)) }, func() { g.B = pick(r, len(f.Places), r.IntN(9)) })
	}
	pick(r, changes...)()
}

// P5.1, for places, and P5.8.
func TestWaysIsADistance(t *testing.T) {
	r := random(42)
	apart, far := 0, 0
	for range 1000 {
		f := randomFell(r)
		want := distances(f)
		for from := range f.Places {
			if at, e := fell.PlaceOf(f, f.Places[from].Name); at != from || e != api.OK {
				t.Fatalf("PlaceOf(%v, %q): %d, error %d", f, f.Places[from].Name, at, e)
			}
			var near []int
			for to := range f.Places {
				n, e := fell.Ways(f, from, to)
				if (e == api.OK) != (want[from][to] >= 0) || n != max(want[from][to], 0) || e != api.OK && e != api.ErrNone {
					t.Fatalf("Ways(%v, %d, %d): %d, error %d, want %d", f, from, to, n, e, want[from][to])
				}
				back, eBack := fell.Ways(f, to, from)
				if back != n || eBack != e || e == api.OK && (n == 0) != (from == to) {
					t.Fatalf("Ways(%v): %d from %d to %d, %d back", f, n, from, to, back)
				}
				for by := range f.Places {
					one, e1 := fell.Ways(f, from, by)
					two, e2 := fell.Ways(f, by, to)
					if e1 == api.OK && e2 == api.OK && (e != api.OK || n > one+two) {
						t.Fatalf("Ways(%v): from %d to %d %d, error %d, by %d %d", f, from, to, n, e, by, one+two)
					}
				}
				switch {
				case e != api.OK:
					apart++
				case n == 1:
					near = append(near, to)
				case n > 2:
					far++
				}
			}
			if got, e := fell.Beside(f, from); !slices.Equal(got, near) || e != api.OK {
				t.Fatalf("Beside(%v, %d): %v, error %d, want %v", f, from, got, e, near)
			}
		}
		for i, g := range f.Gates {
			if at, e := fell.GateOf(f, g.Name); at != i || e != api.OK {
				t.Fatalf("GateOf(%v, %q): %d, error %d", f, g.Name, at, e)
			}
		}
	}
	if apart < 500 || far < 300 {
		t.Errorf("%d pairs are apart, %d far away", apart, far)
	}
}

// P5.1, for logs: some reports are changed.
func TestLogsAtRandom(t *testing.T) {
	r := random(43)
	seen := map[api.Errno]int{}
	for range 10000 {
		f := randomFell(r)
		l := randomLog(r, f, 8, nil)
		for range min(len(l), r.IntN(3)) {
			x := &l[r.IntN(len(l))]
			pick(r, func() { x.Id = l[0].Id }, func() { x.Known = r.IntN(5) - 1 }, func() { x.Of = l[0].Id }, func() { *x = api.Report{Id: x.Id, Known: x.Known, Kind: 8, Of: pick(r, l...).Id} }, func() { x.Tick = r.IntN(25) },
				func() { x.At = r.IntN(13) }, func() { x.Low = r.IntN(2000) - 500 }, func() { x.Kind = uint8(r.IntN(12)) }, func() { x.Owner = r.IntN(42) }, func() { x.Sort = pick(r, "", "a") }, func() { x.Id = r.IntN(30) })()
		}
		at, want := logError(f, l)
		if i, e := fell.Check(f, l); i != at || e != want {
			t.Fatalf("Check(%v, %v): %d, error %d, want %d, error %d", f, l, i, e, at, want)
		}
		for _, x := range l {
			if e := fell.CheckReport(f, x); e != reportError(f, x) {
				t.Fatalf("CheckReport(%v, %v): error %d, want %d", f, x, e, reportError(f, x))
			}
		}
		seen[want]++
		if len(l) == 0 {
			continue
		}
		last := len(l) - 1
		longer, e := fell.Append(f, l[:last], l[last])
		if e != want || e == api.OK && !slices.Equal(longer, l) || e != api.OK && len(longer) > 0 {
			t.Fatalf("Append(%v, %v, %v): %v, error %d, want %d", f, l[:last], l[last], longer, e, want)
		}
	}
	for _, e := range []api.Errno{api.OK, api.ErrArg, api.ErrPlace, api.ErrTwice, api.ErrTime, api.ErrNone} {
		if seen[e] < 100 {
			t.Errorf("error %d came %d times", e, seen[e])
		}
	}
}

// P5.1, for what counts.
func TestCountingAtRandom(t *testing.T) {
	r := random(44)
	voided := 0
	for range 3000 {
		f := randomFell(r)
		l := randomLog(r, f, 12, nil)
		known := r.IntN(9) - 1
		want := countingOf(l, known)
		got, e := fell.Counting(f, l, known)
		if !slices.Equal(got, want) || e != api.OK {
			t.Fatalf("Counting(%v, %d): %v, error %d, want %v", l, known, got, e, want)
		}
		var owners []int
		for owner := range 42 {
			var sorts []string
			for _, sort := range []string{"cow", "sheep"} {
				if slices.ContainsFunc(want, func(x api.Report) bool { return x.Owner == owner && x.Sort == sort }) {
					sorts = append(sorts, sort)
				}
			}
			if got, e := fell.Sorts(f, l, known, owner); !slices.Equal(got, sorts) || e != api.OK {
				t.Fatalf("Sorts(%v, %d, %d): %v, error %d, want %v", l, known, owner, got, e, sorts)
			}
			if len(sorts) > 0 {
				owners = append(owners, owner)
			}
		}
		if got, e := fell.Owners(f, l, known); !slices.Equal(got, owners) || e != api.OK {
			t.Fatalf("Owners(%v, %d): %v, error %d, want %v", l, known, got, e, owners)
		}
		if len(want) < len(countingOf(slices.DeleteFunc(slices.Clone(l), func(x api.Report) bool { return x.Kind == api.ReportVoid }), known)) {
			voided++
		}
	}
	if voided < 500 {
		t.Errorf("voids mattered only %d times", voided)
	}
}

// P5.1 and P5.5: the arcs of random fells, one by one.
func TestNatureAtRandom(t *testing.T) {
	r := random(45)
	for range 150 {
		f := randomFell(r)
		want := modelArcs(f)
		net, e := fell.Nature(f)
		mustOK(t, "Nature", e)
		if len(net.Arcs) != len(want) || fell.Arcs(f) != len(want) || net.N != 1+2*(f.Ticks+1)*len(f.Places) || fell.Nodes(f) != net.N {
			t.Fatalf("%v: %d arcs, Arcs %d, N %d, Nodes %d", f, len(net.Arcs), fell.Arcs(f), net.N, fell.Nodes(f))
		}
		names := map[string]bool{}
		tickOf := func(node int) int { return (node - 1) / 2 / len(f.Places) }
		for i, a := range net.Arcs {
			if a != (api.Arc{From: want[i].from, To: want[i].to, High: want[i].high}) {
				t.Fatalf("Nature(%v): the arc %d is %v, want %v", f, i, a, want[i])
			}
			name, e := fell.NameArc(f, i)
			if name != want[i].name || e != api.OK || names[name] {
				t.Fatalf("NameArc(%v, %d): %q, error %d, want %q", f, i, name, e, want[i].name)
			}
			names[name] = true
			if a.From < 0 || a.From >= net.N || a.To < 0 || a.To >= net.N || a.From > 0 && a.To > 0 && tickOf(a.To) != tickOf(a.From) && tickOf(a.To) != tickOf(a.From)+1 {
				t.Fatalf("Nature(%v): the arc %d, %q, is %v", f, i, name, a)
			}
		}
	}
}

// everyReport returns a report of each number of a fell that reports can tell.
func everyReport(f api.Fell) []api.Report {
	var l []api.Report
	for kind := api.ReportStay; kind <= api.ReportSold; kind++ {
		for at := range namesFor(f, kind) {
			for tick := range lastTick(f, kind) + 1 {
				l = append(l, api.Report{Id: len(l) + 1, Kind: kind, Owner: 1, Sort: "sheep", At: at, Tick: tick})
			}
		}
	}
	return l
}

// P5.5: one-to-one, and with the name that the line of a report has.
func TestMoveArcIsOneToOne(t *testing.T) {
	r := random(46)
	for range 40 {
		f := randomFell(r)
		seen := map[int]bool{}
		for _, x := range everyReport(f) {
			arc, e := fell.MoveArc(f, x)
			if e != api.OK || seen[arc] {
				t.Fatalf("MoveArc(%v, %v): %d, error %d, once more: %v", f, x, arc, e, seen[arc])
			}
			seen[arc] = true
			name, e := fell.NameArc(f, arc)
			if want := fmt.Sprintf("%s %s %d", reportWord[x.Kind], namesFor(f, x.Kind)[x.At], x.Tick); name != want || e != api.OK {
				t.Fatalf("%v tells of the arc %d, %q, error %d, want %q", x, arc, name, e, want)
			}
			if x.Kind != api.ReportStay {
				continue
			}
			if number, e := fell.NumberArc(f, x.At, x.Tick); number != arc || e != api.OK {
				t.Fatalf("NumberArc(%v, %d, %d): %d, error %d, MoveArc %d", f, x.At, x.Tick, number, e, arc)
			}
		}
		// All that no report tells of is what stays, begins and ends.
		if others := fell.Arcs(f) - len(seen); others != len(f.Places)*(f.Ticks+2) {
			t.Fatalf("%v: no report tells of %d arcs", f, others)
		}
	}
}

// P5.1, for networks.
func TestNetOfAtRandom(t *testing.T) {
	r := random(47)
	contrary := 0
	for range 400 {
		f := randomFell(r)
		f.Ticks = min(f.Ticks, 5)
		l := randomLog(r, f, 60, nil)
		known, owner, sort := r.IntN(40)-1, 1+r.IntN(owners+1), randomSort(r)
		want := modelNet(f, l, known, owner, sort)
		got, e := fell.NetOf(f, l, known, owner, sort)
		if got.N != want.N || !slices.Equal(got.Arcs, want.Arcs) || e != api.OK {
			t.Fatalf("NetOf(%v, %v, %d, %d, %q): %v, error %d, want %v", f, l, known, owner, sort, got, e, want)
		}
		if slices.ContainsFunc(got.Arcs, func(a api.Arc) bool { return a.Low > a.High }) {
			contrary++
		}
	}
	if contrary < 30 || contrary > 370 {
		t.Errorf("%d networks have reports of one arc that contradict each other", contrary)
	}
}

// within tells whether amounts are within the bounds of a network.
func within(net api.Net, x []int) bool {
	for i, a := range net.Arcs {
		if x[i] < a.Low || x[i] > a.High {
			return false
		}
	}
	return true
}

// allKept tells whether amounts keep all reports of an owner and a sort that count.
func allKept(t *testing.T, f api.Fell, l []api.Report, known, owner int, sort string, x []int) bool {
	t.Helper()
	counting, e := fell.Counting(f, l, known)
	mustOK(t, "Counting", e)
	for _, y := range counting {
		if y.Owner != owner || y.Sort != sort {
			continue
		}
		if keeps, e := fell.Keeps(f, x, y); !keeps || e != api.OK {
			mustOK(t, "Keeps", e)
			return false
		}
	}
	return true
}

// P5.2: amounts near the bounds of a network are within them just if they are within those by nature and keep all reports.
func TestBoundsAreWhatReportsSay(t *testing.T) {
	r := random(48)
	in, broken := 0, 0
	for range 500 {
		f := randomFell(r)
		f.Ticks = min(f.Ticks, 4)
		l := randomLog(r, f, 40, randomHistory(r, f))
		known, owner, sort := r.IntN(25), 1+r.IntN(owners), randomSort(r)
		net, e := fell.NetOf(f, l, known, owner, sort)
		mustOK(t, "NetOf", e)
		nature, e := fell.Nature(f)
		mustOK(t, "Nature", e)
		var told []int
		for _, y := range l {
			if y.Kind != api.ReportVoid {
				told = append(told, arcOf(f, y))
			}
		}
		for range 8 {
			var x []int
			for _, a := range net.Arcs {
				x = append(x, pick(r, a.Low, a.High, a.Low+r.IntN(max(a.High-a.Low, 0)+1)))
			}
			for range r.IntN(3) {
				i := pick(r, append(told, r.IntN(len(x)))...)
				x[i] = min(max(pick(r, net.Arcs[i].Low-1, net.Arcs[i].High+1, r.IntN(1001)), 0), nature.Arcs[i].High)
			}
			kept := allKept(t, f, l, known, owner, sort, x)
			if !within(nature, x) || within(net, x) != kept {
				t.Fatalf("%v, %v, day %d, owner %d, %s: %v is within %v: %v, keeps all reports: %v", f, l, known, owner, sort, x, net, within(net, x), kept)
			}
			if kept {
				in++
			} else {
				broken++
			}
		}
	}
	if in < 500 || broken < 200 {
		t.Errorf("%d times all reports were kept, %d times not", in, broken)
	}
}

// T5: the history that was is among those that its reports allow, and its numbers are found in it.
func TestTrueHistoriesAreAllowed(t *testing.T) {
	r := random(49)
	for range 300 {
		f := randomFell(r)
		f.Ticks = min(f.Ticks, 6)
		x := randomHistory(r, f)
		l := randomLog(r, f, 60, x)
		known, owner, sort := r.IntN(40), 1+r.IntN(owners), randomSort(r)
		net, e := fell.NetOf(f, l, known, owner, sort)
		mustOK(t, "NetOf", e)
		if !within(net, x) || !allKept(t, f, l, known, owner, sort, x) {
			t.Fatalf("%v, %v: the history %v is not within %v", f, l, x, net)
		}
		for tick := range f.Ticks + 1 {
			present := 0
			for place, p := range f.Places {
				n, e := fell.At(f, x, place, tick)
				if want := x[tick*len(f.Places)+place]; n != want || e != api.OK {
					t.Fatalf("At(%v, %v, %d, %d): %d, error %d, want %d", f, x, place, tick, n, e, want)
				}
				if p.Kind == api.PlaceHeaf {
					present += n
				}
			}
			if n, e := fell.Present(f, x, tick); n != present || e != api.OK {
				t.Fatalf("Present(%v, %v, %d): %d, error %d, want %d", f, x, tick, n, e, present)
			}
			weights, e := fell.OnFell(f, tick)
			mustOK(t, "OnFell", e)
			sum := 0
			for i, weight := range weights {
				sum += weight * x[i]
			}
			if sum != present || len(weights) != len(x) {
				t.Fatalf("OnFell(%v, %d): %v, of %v %d", f, tick, weights, x, sum)
			}
		}
	}
}

// P5.6: nothing comes from nowhere.
func TestNumbersGoOn(t *testing.T) {
	r := random(50)
	for range 300 {
		f := randomFell(r)
		f.Ticks = min(f.Ticks, 6)
		x := randomHistory(r, f)
		net, e := fell.Nature(f)
		mustOK(t, "Nature", e)
		balance := make([]int, net.N)
		for i, a := range net.Arcs {
			balance[a.From] -= x[i]
			balance[a.To] += x[i]
		}
		if slices.ContainsFunc(balance, func(n int) bool { return n != 0 }) || !within(net, x) {
			t.Fatalf("%v: the history %v does not circulate: %v", f, x, balance)
		}
		amount := func(kind uint8, at, tick int) int {
			arc, e := fell.MoveArc(f, api.Report{Id: 1, Kind: kind, Owner: 1, Sort: "a", At: at, Tick: tick})
			mustOK(t, "MoveArc", e)
			return x[arc]
		}
		named := map[string]int{}
		for i := range x {
			name, e := fell.NameArc(f, i)
			mustOK(t, "NameArc", e)
			named[name] = x[i]
		}
		for place, p := range f.Places {
			for tick := range f.Ticks + 1 {
				n, e := fell.At(f, x, place, tick)
				mustOK(t, "At", e)
				came, went := named["begin "+p.Name], named["end "+p.Name]
				if tick < f.Ticks {
					went = named[fmt.Sprintf("rest %s %d", p.Name, tick)] + amount(api.ReportDead, place, tick) + amount(api.ReportSold, place, tick)
				}
				if tick > 0 {
					came = named[fmt.Sprintf("rest %s %d", p.Name, tick-1)] + amount(api.ReportBorn, place, tick-1) + amount(api.ReportBought, place, tick-1)
				}
				for i, g := range f.Gates {
					if tick < f.Ticks && g.A == place {
						went += amount(api.ReportPass, i, tick)
					}
					if tick < f.Ticks && g.B == place {
						went += amount(api.ReportBack, i, tick)
					}
					if tick > 0 && g.B == place {
						came += amount(api.ReportPass, i, tick-1)
					}
					if tick > 0 && g.A == place {
						came += amount(api.ReportBack, i, tick-1)
					}
				}
				if n != went || n != came {
					t.Fatalf("%v, %v: %d are at %s at %d, %d came, %d go", f, x, n, p.Name, tick, came, went)
				}
			}
		}
	}
}

// asWide tells whether each arc of a network has bounds that are as wide as in another one, or wider.
func asWide(a, b api.Net) bool {
	for i := range a.Arcs {
		if a.Arcs[i].Low > b.Arcs[i].Low || a.Arcs[i].High < b.Arcs[i].High {
			return false
		}
	}
	return a.N == b.N && len(a.Arcs) == len(b.Arcs)
}

// P5.3.
func TestReportsNarrow(t *testing.T) {
	r := random(51)
	narrower, wider, same := 0, 0, 0
	for range 1500 {
		f := randomFell(r)
		f.Ticks = min(f.Ticks, 3)
		l := randomLog(r, f, 20, nil)
		if len(l) == 0 {
			continue
		}
		last := l[len(l)-1]
		owner, sort := 1+r.IntN(owners), randomSort(r)
		before, e := fell.NetOf(f, l[:len(l)-1], last.Known, owner, sort)
		mustOK(t, "NetOf", e)
		after, e := fell.NetOf(f, l, last.Known, owner, sort)
		mustOK(t, "NetOf", e)
		of := last
		if last.Kind == api.ReportVoid {
			of = l[slices.IndexFunc(l, func(x api.Report) bool { return x.Id == last.Of })]
		}
		equal := slices.Equal(before.Arcs, after.Arcs)
		switch {
		case of.Owner != owner || of.Sort != sort:
			same++
			if !equal {
				t.Fatalf("%v changes the network of %d and %s: from %v to %v", last, owner, sort, before, after)
			}
		case last.Kind == api.ReportVoid:
			if !asWide(after, before) {
				t.Fatalf("%v narrows %v to %v", last, before, after)
			}
			if !equal {
				wider++
			}
		default:
			if !asWide(before, after) {
				t.Fatalf("%v widens %v to %v", last, before, after)
			}
			if !equal {
				narrower++
			}
		}
		checkRecords(t, f, l, last.Known, after)
	}
	if narrower < 100 || wider < 10 || same < 300 {
		t.Errorf("reports narrowed %d times, voids widened %d times, others changed nothing %d times", narrower, wider, same)
	}
}

// checkRecords looks whether the reports that arcs name count, and tell these arcs, with these ends.
func checkRecords(t *testing.T, f api.Fell, l []api.Report, known int, net api.Net) {
	t.Helper()
	nature, e := fell.Nature(f)
	mustOK(t, "Nature", e)
	counting, e := fell.Counting(f, l, known)
	mustOK(t, "Counting", e)
	for i, a := range net.Arcs {
		if (a.LowBy == 0) != (a.Low == 0) || (a.HighBy == 0) != (a.High == nature.Arcs[i].High) {
			t.Fatalf("the arc %v, by nature %v", a, nature.Arcs[i])
		}
		for _, by := range []int{a.LowBy, a.HighBy} {
			if by == 0 {
				continue
			}
			at := slices.IndexFunc(counting, func(x api.Report) bool { return x.Id == by })
			if at < 0 {
				t.Fatalf("the arc %v rests on what does not count: %v", a, counting)
			}
			x := counting[at]
			if arc, e := fell.MoveArc(f, x); arc != i || e != api.OK || by == a.LowBy && x.Low != a.Low || by == a.HighBy && x.High != a.High {
				t.Fatalf("the arc %d, %v, rests on %v, of the arc %d, error %d", i, a, x, arc, e)
			}
		}
	}
}

// P5.4: reports in any order.
func TestOrderOfReports(t *testing.T) {
	r := random(52)
	other := 0
	for range 1000 {
		f := randomFell(r)
		f.Ticks = min(f.Ticks, 2)
		l := slices.DeleteFunc(randomLog(r, f, 30, nil), func(x api.Report) bool { return x.Kind == api.ReportVoid })
		for i := range l {
			l[i].Known = 7
		}
		mixed := slices.Clone(l)
		r.Shuffle(len(mixed), func(i, j int) { mixed[i], mixed[j] = mixed[j], mixed[i] })
		for _, of := range l {
			if r.IntN(3) == 0 {
				void := api.Report{Id: of.Id + 1000, Known: 7, Kind: api.ReportVoid, Of: of.Id}
				l, mixed = append(l, void), append(mixed, void)
			}
		}
		a, e := fell.NetOf(f, l, 7, 1, "sheep")
		mustOK(t, "NetOf", e)
		b, e := fell.NetOf(f, mixed, 7, 1, "sheep")
		mustOK(t, "NetOf", e)
		if !asWide(a, b) || !asWide(b, a) {
			t.Fatalf("NetOf of %v: %v, of %v: %v", l, a, mixed, b)
		}
		if !slices.Equal(l, mixed) {
			other++
		}
	}
	if other < 700 {
		t.Errorf("only %d logs came in another order", other)
	}
}
