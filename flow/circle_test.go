package flow_test

import (
	"math"
	"slices"
	"testing"

	"couchant/api"
	"couchant/flow"
)

// F12: the chapter's example, in any order.
func TestCirclesOfSample(t *testing.T) {
	l, e := flow.Circles(sample(), []int{3, 2, 2, 1})
	mustOK(t, "Circles", e)
	found := map[int]bool{}
	for _, c := range l {
		if !round(sample(), c.Arcs) {
			t.Errorf("no circle: %v", c)
		}
		switch {
		case len(c.Arcs) == 3:
			found[3] = c.Amount == 2
		case len(c.Arcs) == 2 && slices.Contains(c.Arcs, 0) && slices.Contains(c.Arcs, 3):
			found[2] = c.Amount == 1
		}
	}
	if len(l) != 2 || !found[3] || !found[2] {
		t.Errorf("Circles: %v", l)
	}
	x, e := flow.FromCircles(sample(), l)
	if !slices.Equal(x, []int{3, 2, 2, 1}) || e != api.OK {
		t.Errorf("FromCircles: %v, error %d", x, e)
	}
	if l, e := flow.Circles(sample(), []int{3, 2, 2, 0}); l != nil || e != api.ErrCut {
		t.Errorf("Circles of no circulation: %v, error %d", l, e)
	}
	if l, e := flow.Circles(sample(), []int{1, 1, 1, 0}); l != nil || e != api.ErrCut {
		t.Errorf("Circles below the Low: %v, error %d", l, e)
	}
}

// F12: the amounts are what FromCircles adds up, whatever the arcs can carry.
func TestFromCircles(t *testing.T) {
	g := sample()
	g.Arcs = append(g.Arcs, api.Arc{From: 2, To: 2}, api.Arc{From: 1, To: 2})
	circle := func(amount int, arcs ...int) api.Circle { return api.Circle{Arcs: arcs, Amount: amount} }
	all := circle(1000000, 0, 1, 2)
	for _, c := range []struct {
		l    []api.Circle
		want []int
		e    api.Errno
	}{
		{nil, zeros(6), 0}, {[]api.Circle{all}, []int{1000000, 1000000, 1000000, 0, 0, 0}, 0}, {[]api.Circle{circle(2, 3, 0), circle(3, 1, 2, 0), circle(4, 4), circle(5, 0, 5, 2)}, []int{10, 3, 8, 2, 4, 5}, 0},
		{[]api.Circle{circle(999999, 2, 0, 1), circle(1, 0, 3)}, []int{1000000, 999999, 999999, 1, 0, 0}, 0}, {[]api.Circle{all, circle(1, 0, 3)}, nil, api.ErrLimit},
		{[]api.Circle{all, circle(1, 0, 3), circle(0, 0, 3)}, nil, api.ErrArg}, {[]api.Circle{circle(0, 0, 3)}, nil, api.ErrArg}, {[]api.Circle{circle(-1, 0, 3)}, nil, api.ErrArg}, {[]api.Circle{circle(1000001, 0, 3)}, nil, api.ErrArg},
		{[]api.Circle{circle(1)}, nil, api.ErrArg}, {[]api.Circle{circle(1, 0)}, nil, api.ErrArg}, {[]api.Circle{circle(1, 0, 1)}, nil, api.ErrArg}, {[]api.Circle{circle(1, 0, 2, 1)}, nil, api.ErrArg}, {[]api.Circle{circle(1, 1, 2, 3)}, nil, api.ErrArg},
		{[]api.Circle{circle(1, 0, 3, 0, 3)}, nil, api.ErrArg}, {[]api.Circle{circle(1, 4, 4)}, nil, api.ErrArg}, {[]api.Circle{circle(1, 0, 3, 0, 1, 2)}, nil, api.ErrArg}, {[]api.Circle{circle(1, 2, 0, 1, 4)}, nil, api.ErrArg},
		{[]api.Circle{circle(1, -1)}, nil, api.ErrArg}, {[]api.Circle{circle(1, 6)}, nil, api.ErrArg}, {[]api.Circle{circle(1, math.MaxInt, 0, 3)}, nil, api.ErrArg}, {[]api.Circle{circle(1, 0, math.MinInt)}, nil, api.ErrArg},
		{[]api.Circle{circle(math.MaxInt, 4)}, nil, api.ErrArg}, {[]api.Circle{circle(math.MinInt, 4)}, nil, api.ErrArg},
		{slices.Repeat([]api.Circle{circle(250, 4)}, 4000), []int{0, 0, 0, 0, 1000000, 0}, 0}, {slices.Repeat([]api.Circle{circle(1, 4)}, 4001), nil, api.ErrLimit}, {make([]api.Circle, 4001), nil, api.ErrLimit}, {make([]api.Circle, 4000), nil, api.ErrArg},
	} {
		if x, e := flow.FromCircles(g, c.l); !slices.Equal(x, c.want) || e != c.e {
			t.Errorf("FromCircles of %.100v: %v, error %d, want %v, error %d", c.l, x, e, c.want, c.e)
		}
	}
}

// F12: lists of arcs are circles exactly in the chapter's words.
func TestCirclesOfAll(t *testing.T) {
	r := random(8)
	count := map[bool]int{}
	for range 5000 {
		g := randomArcs(r, 1+r.IntN(4), 1+r.IntN(6))
		arcs := wander(r, g, r.IntN(g.N))
		switch r.IntN(3) {
		case 0:
			arcs = randomList(r, r.IntN(4), 0, len(g.Arcs)-1)
		case 1:
			if len(arcs) > 0 {
				arcs = append(arcs[1:], arcs[0])
			}
			arcs = append(arcs, wander(r, g, r.IntN(g.N))...)
		}
		want := round(g, arcs)
		count[want]++
		x, e := flow.FromCircles(g, []api.Circle{{Arcs: arcs, Amount: 3}})
		if !want && (x != nil || e != api.ErrArg) {
			t.Fatalf("FromCircles(%v) of %v: %v, error %d", g, arcs, x, e)
		}
		if want && e != api.OK {
			t.Fatalf("FromCircles(%v) of %v: error %d", g, arcs, e)
		}
		for arc := range x {
			if (x[arc] == 3) != slices.Contains(arcs, arc) {
				t.Fatalf("FromCircles(%v) of %v: %v", g, arcs, x)
			}
		}
	}
	if count[true] < 1000 || count[false] < 1000 {
		t.Errorf("circles and others: %v", count)
	}
}
