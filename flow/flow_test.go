package flow_test

import (
	"math"
	"testing"

	"couchant/api"
	"couchant/flow"
)

// nodes returns a net of so many nodes and arcs, all of which are loops at node 0.
func loops(nodes, arcs int) api.Net { return api.Net{N: nodes, Arcs: make([]api.Arc, arcs)} }

// F1: the sizes of a net; ErrLimit comes first.
func TestCheckSizes(t *testing.T) {
	bad := loops(1001, 1)
	bad.Arcs[0].From = -1
	long := loops(0, 4001)
	for _, x := range []struct {
		g    api.Net
		want api.Errno
	}{
		{loops(1, 0), api.OK}, {loops(1000, 4000), api.OK}, {loops(1001, 0), api.ErrLimit}, {loops(1, 4001), api.ErrLimit}, {loops(0, 0), api.ErrArg}, {loops(-1, 0), api.ErrArg}, {loops(math.MinInt, 1), api.ErrArg},
		{loops(math.MaxInt, 0), api.ErrLimit}, {bad, api.ErrLimit}, {long, api.ErrLimit}, {api.Net{}, api.ErrArg},
	} {
		if e := flow.Check(x.g); e != x.want {
			t.Errorf("Check of %d nodes and %d arcs: error %d, want %d", x.g.N, len(x.g.Arcs), e, x.want)
		}
	}
}

// F1: the fields of arcs.
func TestCheckArcs(t *testing.T) {
	for _, field := range []struct {
		name string
		set  func(a *api.Arc, n int)
		most int
	}{
		{"From", func(a *api.Arc, n int) { a.From = n }, 2}, {"To", func(a *api.Arc, n int) { a.To = n }, 2}, {"Low", func(a *api.Arc, n int) { a.Low = n }, 1000000}, {"High", func(a *api.Arc, n int) { a.High = n }, 1000000},
		{"LowBy", func(a *api.Arc, n int) { a.LowBy = n }, 1000000}, {"HighBy", func(a *api.Arc, n int) { a.HighBy = n }, 1000000},
	} {
		for _, n := range []int{math.MinInt, -1, 0, 1, field.most, field.most + 1, math.MaxInt} {
			want := api.OK
			if n < 0 || n > field.most {
				want = api.ErrArg
			}
			for arc := range 4 {
				g := sample()
				field.set(&g.Arcs[arc], n)
				if e := flow.Check(g); e != want {
					t.Errorf("Check with the %s %d of arc %d: error %d, want %d", field.name, n, arc, e, want)
				}
			}
		}
	}
}

// F2: the chapter's example, and amounts at the ends of what they can be.
func TestKept(t *testing.T) {
	for _, c := range []struct {
		x    []int
		want bool
		e    api.Errno
	}{
		{[]int{3, 2, 2, 1}, true, 0}, {[]int{1, 1, 1, 0}, false, 0}, {[]int{2, 2, 2, 0}, true, 0}, {[]int{5, 4, 4, 1}, true, 0}, {[]int{5, 5, 5, 0}, false, 0}, {[]int{5, 2, 2, 3}, true, 0}, {[]int{6, 4, 4, 2}, false, 0},
		{[]int{3, 2, 2, 0}, false, 0}, {[]int{3, 3, 2, 0}, false, 0}, {[]int{0, 0, 0, 0}, false, 0}, {[]int{1000000, 0, 0, 0}, false, 0},
		{[]int{1000001, 0, 0, 0}, false, api.ErrArg}, {[]int{3, 2, 2, -1}, false, api.ErrArg}, {[]int{3, 2, 2}, false, api.ErrArg}, {[]int{3, 2, 2, 1, 0}, false, api.ErrArg}, {nil, false, api.ErrArg},
	} {
		if is, e := flow.Kept(sample(), c.x); is != c.want || e != c.e {
			t.Errorf("Kept of %v: %t, error %d, want %t, error %d", c.x, is, e, c.want, c.e)
		}
	}
	if is, e := flow.Kept(loops(1, 0), nil); !is || e != api.OK {
		t.Errorf("Kept of nothing: %t, error %d", is, e)
	}
}

// F2, in the chapter's words, for all amounts of small nets, one beyond their ends too.
func TestKeptOfAll(t *testing.T) {
	r := random(1)
	count := map[bool]int{}
	for range 3000 {
		g := smallNet(r)
		x := randomList(r, len(g.Arcs), 0, 3)
		if all := circulations(g); len(all) > 0 && r.IntN(2) == 0 {
			x = pick(r, all...)
			if len(x) > 0 && r.IntN(2) == 0 {
				x[r.IntN(len(x))]++
			}
		}
		want := kept(g, x)
		count[want]++
		if is, e := flow.Kept(g, x); is != want || e != api.OK {
			t.Fatalf("Kept(%v, %v): %t, error %d, want %t", g, x, is, e, want)
		}
	}
	if count[true] < 500 || count[false] < 500 {
		t.Errorf("circulations and others: %v", count)
	}
}
