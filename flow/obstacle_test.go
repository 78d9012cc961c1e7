package flow_test

import (
	"math"
	"reflect"
	"slices"
	"testing"

	"couchant/api"
	"couchant/flow"
)

// cut is an obstacle of nodes.
func cut(nodes ...int) api.Obstacle { return api.Obstacle{Arc: -1, Nodes: nodes} }

// F3, F4: the chapter's example.
func TestObstacleOfSample(t *testing.T) {
	g := cutSample(t)
	if _, e := flow.Some(g); e != api.ErrCut {
		t.Errorf("Some: error %d", e)
	}
	o, is, e := flow.Obstacle(g)
	if !is || e != api.OK || o.Arc != -1 || !slices.Equal(o.Nodes, []int{0, 2}) {
		t.Errorf("Obstacle: %v, %t, error %d", o, is, e)
	}
	records, e := flow.ObstacleRecords(g, o)
	if e != api.OK || !slices.Equal(records, []int{1, 7, 8}) {
		t.Errorf("ObstacleRecords: %v, error %d", records, e)
	}
	if o, is, e := flow.Obstacle(sample()); is || e != api.OK || o.Arc != 0 || len(o.Nodes) != 0 {
		t.Errorf("Obstacle of the net as it was: %v, %t, error %d", o, is, e)
	}
}

// F4: an arc whose Low is greater than its High, and what is no obstacle, nor an error.
func TestCheckObstacle(t *testing.T) {
	g, crossed := cutSample(t), sample()
	crossed.Arcs[2].Low = 10
	for _, x := range []struct {
		g    api.Net
		o    api.Obstacle
		want bool
	}{
		{g, cut(0, 2), true}, {g, cut(0), false}, {g, cut(1), false}, {g, cut(2), false}, {g, cut(0, 1), false}, {g, cut(0, 1, 2), false}, {g, cut(), false}, {g, cut(2, 0), false}, {g, cut(0, 0, 2), false}, {g, cut(0, 2, 2), false},
		{g, cut(0, 2, 3), false}, {g, cut(-1, 0, 2), false}, {g, cut(0, 2, math.MaxInt), false}, {g, cut(math.MinInt, 0, 2), false}, {g, api.Obstacle{Arc: 0}, false}, {g, api.Obstacle{Arc: -2, Nodes: []int{0, 2}}, false},
		{g, api.Obstacle{Arc: 0, Nodes: []int{0, 2}}, false}, {g, api.Obstacle{Arc: 4}, false}, {g, api.Obstacle{Arc: math.MaxInt}, false}, {g, api.Obstacle{Arc: math.MinInt}, false},
		{crossed, api.Obstacle{Arc: 2}, true}, {crossed, api.Obstacle{Arc: 1}, false}, {crossed, api.Obstacle{Arc: 2, Nodes: []int{0}}, false}, {crossed, api.Obstacle{Arc: 2, Nodes: []int{}}, true}, {crossed, cut(2), true}, {crossed, cut(0, 2), false},
		{sample(), cut(0, 2), false}, {sample(), api.Obstacle{}, false},
	} {
		is, e := flow.CheckObstacle(x.g, x.o)
		if is != x.want || e != api.OK {
			t.Errorf("CheckObstacle of %v: %t, error %d, want %t", x.o, is, e, x.want)
		}
		if records, e := flow.ObstacleRecords(x.g, x.o); (e == api.OK) != x.want || e != api.OK && e != api.ErrArg {
			t.Errorf("ObstacleRecords of %v: %v, error %d", x.o, records, e)
		}
	}
	if o, is, e := flow.Obstacle(crossed); !is || e != api.OK || !slices.ContainsFunc(obstacles(crossed), func(p api.Obstacle) bool { return reflect.DeepEqual(o, p) }) {
		t.Errorf("Obstacle with a Low above the High: %v, %t, error %d", o, is, e)
	}
	if records, e := flow.ObstacleRecords(crossed, api.Obstacle{Arc: 2}); len(records) != 0 || e != api.OK {
		t.Errorf("ObstacleRecords of what is by nature: %v, error %d", records, e)
	}
}

// F4: a loop whose Low is above its High is an obstacle alone, and so is a node of its own in another way.
func TestObstacleOfLoop(t *testing.T) {
	g := api.Net{N: 1, Arcs: []api.Arc{{Low: 3, High: 2, LowBy: 9, HighBy: 4}, {Low: 1, High: 1}}}
	o, is, e := flow.Obstacle(g)
	if !is || e != api.OK || o.Arc != 0 || len(o.Nodes) != 0 {
		t.Errorf("Obstacle: %v, %t, error %d", o, is, e)
	}
	if records, e := flow.ObstacleRecords(g, o); e != api.OK || !slices.Equal(records, []int{4, 9}) {
		t.Errorf("ObstacleRecords: %v, error %d", records, e)
	}
}

// F8: an obstacle does not rest on a Low of 0, but on a High of 0, and it names a record once.
func TestObstacleRecords(t *testing.T) {
	g := api.Net{N: 2, Arcs: []api.Arc{{To: 1, Low: 2, High: 2, LowBy: 6, HighBy: 1}, {To: 1, High: 3, LowBy: 2, HighBy: 3}, {From: 1, LowBy: 4, HighBy: 5}, {From: 1, High: 1, LowBy: 4, HighBy: 6}, {High: 7, LowBy: 8, HighBy: 9}, {To: 1, Low: 1, High: 1}}}
	records, e := flow.ObstacleRecords(g, cut(0))
	if e != api.OK || !slices.Equal(records, []int{5, 6}) {
		t.Errorf("ObstacleRecords: %v, error %d", records, e)
	}
}

// F4, F8: all that are obstacles of small nets, and all others, in the chapter's words.
func TestObstaclesOfAll(t *testing.T) {
	r := random(2)
	count := map[bool]int{}
	for range 1500 {
		g := smallNet(r)
		its := obstacles(g)
		var asked []api.Obstacle
		for i := range len(g.Arcs) + 1 {
			asked = append(asked, api.Obstacle{Arc: i})
		}
		for _, s := range subsets(g.N) {
			asked = append(asked, cut(s...))
		}
		for _, o := range asked {
			want := slices.ContainsFunc(its, func(p api.Obstacle) bool { return reflect.DeepEqual(o, p) })
			count[want]++
			if is, e := flow.CheckObstacle(g, o); is != want || e != api.OK {
				t.Fatalf("CheckObstacle(%v, %v): %t, error %d, want %t", g, o, is, e, want)
			}
			records, e := flow.ObstacleRecords(g, o)
			if !want && (e != api.ErrArg || records != nil) || want && (e != api.OK || !slices.Equal(records, obstructing(g, o))) {
				t.Fatalf("ObstacleRecords(%v, %v): %v, error %d", g, o, records, e)
			}
		}
	}
	if count[true] < 500 || count[false] < 500 {
		t.Errorf("obstacles and others: %v", count)
	}
}

// P6.2 for small nets: that there is a circulation is what all of them say.
func TestSomeOfAll(t *testing.T) {
	r := random(3)
	count := map[bool]int{}
	for range 4000 {
		g := smallNet(r)
		all := circulations(g)
		some := len(all) > 0
		count[some]++
		x, e := flow.Some(g)
		if some && (e != api.OK || !kept(g, x)) || !some && (e != api.ErrCut || x != nil) {
			t.Fatalf("Some(%v): %v, error %d, of %d circulations", g, x, e, len(all))
		}
		o, is, e := flow.Obstacle(g)
		if is == some || e != api.OK || is && !slices.ContainsFunc(obstacles(g), func(p api.Obstacle) bool { return reflect.DeepEqual(o, p) }) || !is && !reflect.DeepEqual(o, api.Obstacle{}) {
			t.Fatalf("Obstacle(%v): %v, %t, error %d, with %d circulations", g, o, is, e, len(all))
		}
	}
	if count[true] < 1000 || count[false] < 1000 {
		t.Errorf("nets with circulations, and without: %v", count)
	}
}
