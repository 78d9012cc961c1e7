package flow_test

import (
	"math"
	"reflect"
	"testing"

	"couchant/api"
	"couchant/flow"
)

// F13: an end that is not narrower stays as it is, with its record.
func TestNarrow(t *testing.T) {
	arc := api.Arc{From: 0, To: 1, Low: 2, High: 5, LowBy: 1, HighBy: 2}
	for _, x := range []struct{ low, high, lowest, highest, lowBy, highBy int }{
		{0, 1000000, 2, 5, 1, 2}, {2, 5, 2, 5, 1, 2}, {3, 5, 3, 5, 9, 2}, {2, 4, 2, 4, 1, 9}, {3, 3, 3, 3, 9, 9}, {1, 1, 2, 1, 1, 9}, {6, 1000000, 6, 5, 9, 2}, {1000000, 0, 1000000, 0, 9, 9}, {4, 3, 4, 3, 9, 9},
	} {
		want := sample()
		want.Arcs[0] = api.Arc{From: 0, To: 1, Low: x.lowest, High: x.highest, LowBy: x.lowBy, HighBy: x.highBy}
		if g, e := flow.Narrow(sample(), 0, x.low, x.high, 9); !reflect.DeepEqual(g, want) || e != api.OK {
			t.Errorf("Narrow of %v to %d, %d: %v, error %d", arc, x.low, x.high, g, e)
		}
	}
	if g, e := flow.Narrow(sample(), 3, 1, 2, 0); e != api.OK || g.Arcs[3] != (api.Arc{From: 1, To: 0, Low: 1, High: 2}) {
		t.Errorf("Narrow by no record: %v, error %d", g, e)
	}
	for _, x := range [][4]int{
		{-1, 0, 1, 1}, {4, 0, 1, 1}, {math.MinInt, 0, 1, 1}, {math.MaxInt, 0, 1, 1}, {0, -1, 1, 1}, {0, 1000001, 1, 1}, {0, 0, -1, 1}, {0, 0, 1000001, 1}, {0, 0, 1, -1}, {0, 0, 1, 1000001}, {0, math.MinInt, math.MaxInt, 1},
	} {
		if g, e := flow.Narrow(sample(), x[0], x[1], x[2], x[3]); !reflect.DeepEqual(g, api.Net{}) || e != api.ErrArg {
			t.Errorf("Narrow by %v: %v, error %d", x, g, e)
		}
	}
	if _, e := flow.Narrow(sample(), 0, 0, 1, 1000000); e != api.OK {
		t.Errorf("Narrow by the last record: error %d", e)
	}
}

// F13: what a record sets is lifted wherever it does.
func TestWithout(t *testing.T) {
	g := api.Net{N: 2, Arcs: []api.Arc{{To: 1, Low: 2, High: 5, LowBy: 3, HighBy: 4}, {From: 1, Low: 1, High: 1, LowBy: 4, HighBy: 3}, {Low: 3, High: 3, LowBy: 3, HighBy: 3}, {Low: 7, High: 6}, {High: 8, LowBy: 2, HighBy: 1000000}}}
	for record, want := range map[int][]api.Arc{
		3:       {{To: 1, High: 5, HighBy: 4}, {From: 1, Low: 1, High: 1000000, LowBy: 4}, {High: 1000000}, {Low: 7, High: 6}, {High: 8, LowBy: 2, HighBy: 1000000}},
		4:       {{To: 1, Low: 2, High: 1000000, LowBy: 3}, {From: 1, High: 1, HighBy: 3}, {Low: 3, High: 3, LowBy: 3, HighBy: 3}, {Low: 7, High: 6}, {High: 8, LowBy: 2, HighBy: 1000000}},
		1000000: {{To: 1, Low: 2, High: 5, LowBy: 3, HighBy: 4}, {From: 1, Low: 1, High: 1, LowBy: 4, HighBy: 3}, {Low: 3, High: 3, LowBy: 3, HighBy: 3}, {Low: 7, High: 6}, {High: 1000000, LowBy: 2}},
		1:       g.Arcs,
	} {
		if h, e := flow.Without(g, record); h.N != 2 || !reflect.DeepEqual(h.Arcs, want) || e != api.OK {
			t.Errorf("Without %d: %v, error %d", record, h, e)
		}
	}
	for _, record := range []int{0, -1, 1000001, math.MinInt, math.MaxInt} {
		if h, e := flow.Without(g, record); !reflect.DeepEqual(h, api.Net{}) || e != api.ErrArg {
			t.Errorf("Without %d: %v, error %d", record, h, e)
		}
	}
}

// F13: the arcs of the first net come first; the limit is that of both together.
func TestJoin(t *testing.T) {
	g, h := sample(), api.Net{N: 3, Arcs: []api.Arc{{From: 2, To: 2, Low: 9, High: 1}, {High: 7, HighBy: 3}}}
	want := api.Net{N: 3, Arcs: append(sample().Arcs, h.Arcs...)}
	if both, e := flow.Join(g, h); !reflect.DeepEqual(both, want) || e != api.OK {
		t.Errorf("Join: %v, error %d", both, e)
	}
	bad := loops(3, 1)
	bad.Arcs[0].To = 3
	for _, x := range []struct {
		g, h api.Net
		want api.Errno
	}{
		{loops(1, 4000), loops(1, 0), api.OK}, {loops(1, 1999), loops(1, 2001), api.OK}, {loops(1, 2000), loops(1, 2001), api.ErrLimit}, {loops(1, 4000), loops(2, 1), api.ErrArg}, {loops(2, 0), loops(1, 0), api.ErrArg},
		{loops(1001, 0), bad, api.ErrLimit}, {bad, loops(1001, 0), api.ErrArg}, {g, loops(1, 4001), api.ErrLimit}, {loops(1, 4001), bad, api.ErrLimit}, {g, bad, api.ErrArg}, {bad, g, api.ErrArg},
	} {
		both, e := flow.Join(x.g, x.h)
		if e != x.want || e != api.OK && !reflect.DeepEqual(both, api.Net{}) || e == api.OK && len(both.Arcs) != 4000 {
			t.Errorf("Join of %d and %d nodes, %d and %d arcs: error %d, want %d", x.g.N, x.h.N, len(x.g.Arcs), len(x.h.Arcs), e, x.want)
		}
	}
}
