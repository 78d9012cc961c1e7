package fell_test

import (
	"slices"
	"testing"

	"couchant/api"
	"couchant/fell"
)

// The chapter's examples of E8 to E10.
func TestExamplesOfNets(t *testing.T) {
	f := sample(t)
	if i, e := fell.NumberArc(f, 2, 1); i != 5 || e != api.OK {
		t.Errorf("NumberArc: %d, error %d", i, e)
	}
	for i, want := range map[int]string{5: "stay yard 1", 9: "rest high 0", 10: "born high 0", 24: "pass gap 0", 25: "back gap 0", 28: "rest high 1", 47: "begin high", 52: "end yard"} {
		if got, e := fell.NameArc(f, i); got != want || e != api.OK {
			t.Errorf("NameArc(%d): %q, error %d, want %q", i, got, e, want)
		}
	}
	first := report(t, f, "1 0 pass 7 sheep gap 0 5 9")
	if i, e := fell.MoveArc(f, first); i != 24 || e != api.OK {
		t.Errorf("MoveArc: %d, error %d", i, e)
	}
	two := reports(t, f, "1 0 pass 7 sheep gap 0 5 9", "2 3 pass 7 sheep gap 0 7 30")
	three := reports(t, f, "1 0 pass 7 sheep gap 0 5 9", "2 3 pass 7 sheep gap 0 7 30", "3 4 void 1")
	for _, c := range []struct {
		l            []api.Report
		known, owner int
		want         api.Arc
	}{
		{two, 3, 7, api.Arc{From: 2, To: 9, Low: 7, High: 9, LowBy: 2, HighBy: 1}},
		{two, 2, 7, api.Arc{From: 2, To: 9, Low: 5, High: 9, LowBy: 1, HighBy: 1}},
		{two, 3, 8, api.Arc{From: 2, To: 9, High: 20}},
		{three, 4, 7, api.Arc{From: 2, To: 9, Low: 7, High: 20, LowBy: 2}},
	} {
		net, e := fell.NetOf(f, c.l, c.known, c.owner, "sheep")
		if e != api.OK || net.N != 19 || len(net.Arcs) != 53 || net.Arcs[24] != c.want {
			t.Errorf("NetOf for %d on day %d: %v, error %d, want the arc %v", c.owner, c.known, net, e, c.want)
		}
	}
	weights, e := fell.OnFell(f, 1)
	mustOK(t, "OnFell", e)
	for i, weight := range weights {
		if want := i == 3 || i == 4; weight != 0 && weight != 1 || want != (weight == 1) {
			t.Errorf("OnFell has the weight %d at %d", weight, i)
		}
	}
}

// E7: also of fells that are not valid.
func TestNodesAndArcs(t *testing.T) {
	for _, c := range []struct {
		f           api.Fell
		nodes, arcs int
	}{
		{api.Fell{Ticks: 1, Places: places(1)}, 5, 9},
		{api.Fell{Ticks: 1, Places: places(2), Gates: gates(1)}, 9, 4 + 12 + 4},
		{api.Fell{Ticks: 24, Places: places(8), Gates: gates(12)}, 401, 200 + 24*64 + 16},
		{api.Fell{}, 0, 0}, {api.Fell{Ticks: 25, Places: places(1)}, 0, 0}, {api.Fell{Ticks: -3, Places: places(1)}, 0, 0}, {api.Fell{Ticks: 1, Places: places(1), Yield: -1}, 0, 0},
	} {
		if nodes, arcs := fell.Nodes(c.f), fell.Arcs(c.f); nodes != c.nodes || arcs != c.arcs {
			t.Errorf("Nodes and Arcs of %v: %d, %d, want %d, %d", c.f, nodes, arcs, c.nodes, c.arcs)
		}
	}
}

// The words "the network" of the chapter, arc by arc, for a small fell.
func TestNature(t *testing.T) {
	f := parsed(t, "fell 1 50", "heaf a", "fold b", "gate g b a 7")
	net, e := fell.Nature(f)
	mustOK(t, "Nature", e)
	want := []api.Arc{
		// The numbers: a and b at the tick 0, then at the tick 1.
		{From: 1, To: 2, High: 1000}, {From: 3, To: 4, High: 1000}, {From: 5, To: 6, High: 1000}, {From: 7, To: 8, High: 1000},
		// Staying, births, deaths, purchases, sales of a, of b; from b to a, and back.
		{From: 2, To: 5, High: 1000}, {From: 0, To: 5, High: 50}, {From: 2, To: 0, High: 50}, {From: 0, To: 5, High: 50}, {From: 2, To: 0, High: 50},
		{From: 4, To: 7, High: 1000}, {From: 0, To: 7, High: 50}, {From: 4, To: 0, High: 50}, {From: 0, To: 7, High: 50}, {From: 4, To: 0, High: 50},
		{From: 4, To: 5, High: 7}, {From: 2, To: 7, High: 7},
		// The beginning, the end.
		{From: 0, To: 1, High: 1000}, {From: 0, To: 3, High: 1000}, {From: 6, To: 0, High: 1000}, {From: 8, To: 0, High: 1000},
	}
	if net.N != 9 || !slices.Equal(net.Arcs, want) {
		t.Errorf("Nature: %v", net)
	}
	names := []string{"stay a 0", "stay b 0", "stay a 1", "stay b 1", "rest a 0", "born a 0", "dead a 0", "bought a 0", "sold a 0", "rest b 0", "born b 0", "dead b 0", "bought b 0", "sold b 0", "pass g 0", "back g 0", "begin a", "begin b", "end a", "end b"}
	for i, name := range names {
		if got, e := fell.NameArc(f, i); got != name || e != api.OK {
			t.Errorf("NameArc(%d): %q, error %d, want %q", i, got, e, name)
		}
	}
}

// E8: which arcs there are not.
func TestNoArcs(t *testing.T) {
	f := sample(t)
	for _, arc := range []int{-1, 53, 54, 1 << 62, -1 << 63} {
		if got, e := fell.NameArc(f, arc); got != "" || e != api.ErrArg {
			t.Errorf("NameArc(%d): %q, error %d", arc, got, e)
		}
	}
	for _, c := range []struct {
		place, tick int
		e           api.Errno
	}{{0, -1, api.ErrArg}, {0, 3, api.ErrArg}, {9, 3, api.ErrArg}, {-1, -1, api.ErrArg}, {-1, 0, api.ErrPlace}, {3, 2, api.ErrPlace}, {1 << 62, 1, api.ErrPlace}, {0, 1 << 62, api.ErrArg}} {
		if got, e := fell.NumberArc(f, c.place, c.tick); got != 0 || e != c.e {
			t.Errorf("NumberArc(%d, %d): %d, error %d, want %d", c.place, c.tick, got, e, c.e)
		}
	}
	for _, bad := range badReports() {
		if got, e := fell.MoveArc(f, bad.x); got != 0 || e != bad.e {
			t.Errorf("MoveArc(%v): %d, error %d, want %d", bad.x, got, e, bad.e)
		}
	}
	if got, e := fell.MoveArc(f, api.Report{Id: 1, Kind: api.ReportVoid, Of: 1}); got != 0 || e != api.ErrArg {
		t.Errorf("MoveArc of a void: %d, error %d", got, e)
	}
}

// E9: reports only narrow, equal ends stay those of the first one, and a Low can come to be greater than a High.
func TestNarrowingOneArc(t *testing.T) {
	f := sample(t)
	for _, c := range []struct {
		lines []string
		want  api.Arc
	}{
		{[]string{"1 0 pass 7 sheep gap 0 0 1000"}, api.Arc{High: 20}},
		{[]string{"1 0 pass 7 sheep gap 0 0 20"}, api.Arc{High: 20}},
		{[]string{"1 0 pass 7 sheep gap 0 0 19"}, api.Arc{High: 19, HighBy: 1}},
		{[]string{"1 0 pass 7 sheep gap 0 1 20"}, api.Arc{Low: 1, High: 20, LowBy: 1}},
		{[]string{"1 0 pass 7 sheep gap 0 25 30"}, api.Arc{Low: 25, High: 20, LowBy: 1}},
		{[]string{"2 0 pass 7 sheep gap 0 5 9", "1 0 pass 7 sheep gap 0 5 9"}, api.Arc{Low: 5, High: 9, LowBy: 2, HighBy: 2}},
		{[]string{"1 0 pass 7 sheep gap 0 5 9", "2 0 pass 7 sheep gap 0 4 10"}, api.Arc{Low: 5, High: 9, LowBy: 1, HighBy: 1}},
		{[]string{"1 0 pass 7 sheep gap 0 5 9", "2 0 pass 7 sheep gap 0 6 8", "3 0 pass 7 sheep gap 0 6 7"}, api.Arc{Low: 6, High: 7, LowBy: 2, HighBy: 3}},
		{[]string{"1 0 pass 7 sheep gap 0 15 18", "2 0 pass 7 sheep gap 0 2 3"}, api.Arc{Low: 15, High: 3, LowBy: 1, HighBy: 2}},
		{[]string{"1 0 pass 7 sheep gap 0 0 0"}, api.Arc{HighBy: 1}},
		{[]string{"1 0 back 7 sheep gap 0 5 9", "2 0 pass 7 sheep gap 1 5 9", "3 0 pass 7 sheep lane 0 5 9", "4 0 pass 7 cow gap 0 5 9", "5 0 pass 8 sheep gap 0 5 9"}, api.Arc{High: 20}},
	} {
		c.want.From, c.want.To = 2, 9
		net, e := fell.NetOf(f, reports(t, f, c.lines...), 0, 7, "sheep")
		mustOK(t, "NetOf", e)
		if net.Arcs[24] != c.want {
			t.Errorf("NetOf with %q: the arc %v, want %v", c.lines, net.Arcs[24], c.want)
		}
	}
}

// E9: owners and sorts that there are not.
func TestNetOfRefuses(t *testing.T) {
	f, l := sample(t), sampleLog(t)
	for _, c := range []struct {
		owner int
		sort  string
		e     api.Errno
	}{{1, "a", api.OK}, {40, "sheep", api.OK}, {0, "sheep", api.ErrArg}, {41, "sheep", api.ErrArg}, {-1, "sheep", api.ErrArg}, {7, "", api.ErrArg}, {7, "Sheep", api.ErrArg}, {7, "sheep ", api.ErrArg}} {
		if net, e := fell.NetOf(f, l, 9, c.owner, c.sort); e != c.e || (e == api.OK) != (net.N == 19) || (e == api.OK) != (len(net.Arcs) == 53) {
			t.Errorf("NetOf for %d and %q: %v, error %d, want %d", c.owner, c.sort, net, e, c.e)
		}
	}
	if net, e := fell.NetOf(f, append(l, api.Report{}), 9, 0, ""); net.N != 0 || len(net.Arcs) > 0 || e != api.ErrArg {
		t.Errorf("NetOf of no log: %v, error %d", net, e)
	}
	if _, e := fell.NetOf(f, append(l, api.Report{Id: 99, Known: 9, Kind: api.ReportVoid, Of: 98}), 9, 0, ""); e != api.ErrNone {
		t.Errorf("NetOf of no log: error %d", e)
	}
}
