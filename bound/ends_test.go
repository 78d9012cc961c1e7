package bound_test

import (
	"math"
	"reflect"
	"slices"
	"testing"

	"couchant/api"
	"couchant/bound"
	"couchant/fell"
)

// G1: what is wrong with a figure, in this order.
func TestCheckFigure(t *testing.T) {
	f, broken := sample(t), sample(t)
	broken.Places[1].Name = "high"
	for _, c := range []struct {
		f api.Fell
		x api.Figure
		e api.Errno
	}{
		{f, sheep(high, 0), api.OK}, {f, sheep(yard, 2), api.OK}, {f, sheep(-1, 1), api.OK}, {f, api.Figure{Owner: 1, Sort: "a", Place: low}, api.OK}, {f, api.Figure{Owner: 40, Sort: "a-9", Place: low, Tick: 1}, api.OK},
		{f, sheep(3, 0), api.ErrPlace}, {f, sheep(-2, 0), api.ErrPlace}, {f, sheep(math.MinInt, 0), api.ErrPlace}, {f, sheep(math.MaxInt, 0), api.ErrPlace}, {f, sheep(0, 3), api.ErrArg}, {f, sheep(0, -1), api.ErrArg}, {f, sheep(-1, 3), api.ErrArg}, {f, sheep(-1, math.MinInt), api.ErrArg},
		{f, sheep(3, 3), api.ErrArg}, {f, api.Figure{Sort: "sheep"}, api.ErrArg}, {f, api.Figure{Owner: 41, Sort: "sheep"}, api.ErrArg}, {f, api.Figure{Owner: -1, Sort: "sheep", Place: 3}, api.ErrArg}, {f, api.Figure{Owner: 7}, api.ErrArg}, {f, api.Figure{Owner: 7, Sort: "Sheep"}, api.ErrArg},
		{f, api.Figure{Owner: 7, Sort: "abcdefghijklmnopqrstuvwxy"}, api.ErrArg}, {broken, sheep(0, 0), api.ErrTwice}, {broken, sheep(3, 9), api.ErrTwice}, {api.Fell{}, sheep(0, 0), api.ErrNone}, {api.Fell{Ticks: 25}, sheep(0, 0), api.ErrLimit},
	} {
		if e := bound.CheckFigure(c.f, c.x); e != c.e {
			t.Errorf("CheckFigure of %v: error %d, want %d", c.x, e, c.e)
		}
		if w, e := bound.Weights(c.f, c.x); e != c.e || (len(w) > 0) != (e == api.OK) {
			t.Errorf("Weights of %v: %v, error %d, want %d", c.x, w, e, c.e)
		}
	}
}

// G1: 1 for the number of a place, or those of all heafs.
func TestWeights(t *testing.T) {
	f := sample(t)
	for _, c := range []struct {
		x    api.Figure
		ones []int
	}{{sheep(high, 0), []int{0}}, {sheep(yard, 1), []int{5}}, {sheep(low, 2), []int{7}}, {sheep(-1, 0), []int{0, 1}}, {sheep(-1, 2), []int{6, 7}}} {
		want := make([]int, 53)
		for _, i := range c.ones {
			want[i] = 1
		}
		if w, e := bound.Weights(f, c.x); !slices.Equal(w, want) || e != api.OK {
			t.Errorf("Weights of %v: %v, error %d", c.x, w, e)
		}
	}
	folds := parsed(t, "fell 1 3", "fold a", "fold b")
	if w, e := bound.Weights(folds, sheep(-1, 1)); !slices.Equal(w, make([]int, fell.Arcs(folds))) || e != api.OK {
		t.Errorf("Weights of a fell without heafs: %v, error %d", w, e)
	}
	if low, high := ends(t, folds, nil, 0, sheep(-1, 1)); low != 0 || high != 0 {
		t.Errorf("Ends on a fell without heafs: %d, %d", low, high)
	}
}

// G2: the chapter's examples.
func TestEndsOfSample(t *testing.T) {
	f, l := sample(t), sampleLog(t)
	for known, want := range map[int][]api.Pair{
		0: {{A: 15, B: 15}, {A: 10, B: 15}, {A: 0, B: 15}}, 1: {{A: 15, B: 15}, {A: 10, B: 15}, {A: 0, B: 15}},
		2: {{A: 15, B: 15}, {A: 11, B: 12}, {A: 0, B: 15}}, 3: {{A: 15, B: 15}, {A: 11, B: 12}, {A: 9, B: 15}}, math.MaxInt: {{A: 15, B: 15}, {A: 11, B: 12}, {A: 9, B: 15}},
		-1: {{B: 2000}, {B: 2000}, {B: 2000}}, math.MinInt: {{B: 2000}, {B: 2000}, {B: 2000}},
	} {
		if got := table(t, f, l, known, 7, "sheep"); !slices.Equal(got, want) {
			t.Errorf("Table on the day %d: %v, want %v", known, got, want)
		}
	}
	for x, want := range map[api.Figure][2]int{sheep(yard, 1): {3, 4}, sheep(low, 1): {0, 12}, sheep(high, 1): {0, 12}, sheep(yard, 2): {0, 15}, sheep(-1, 1): {11, 12}, {Owner: 8, Sort: "sheep", Place: -1}: {0, 2000}, {Owner: 7, Sort: "cow", Tick: 2}: {0, 1000}} {
		if low, high := ends(t, f, l, 2, x); low != want[0] || high != want[1] {
			t.Errorf("Ends of %v: %d, %d, want %v", x, low, high, want)
		}
	}
}

// G2, G3, G5: reports that contradict each other are said; Through and CheckBounds find nothing then, which is no error.
func TestEndsInDoubt(t *testing.T) {
	f, l := sample(t), doubtLog(t)
	if low, high, e := bound.Ends(f, l, 4, sheep(-1, 0)); low != 0 || high != 0 || e != api.ErrDoubt {
		t.Errorf("Ends: %d, %d, error %d", low, high, e)
	}
	if pairs, e := bound.Table(f, l, 4, 7, "sheep"); pairs != nil || e != api.ErrDoubt {
		t.Errorf("Table: %v, error %d", pairs, e)
	}
	if b, e := bound.Bounds(f, l, 4, sheep(0, 0)); !reflect.DeepEqual(b, api.Bounds{}) || e != api.ErrDoubt {
		t.Errorf("Bounds: %v, error %d", b, e)
	}
	b, e := bound.Bounds(f, l, 3, sheep(0, 0))
	mustOK(t, "Bounds", e)
	if is, e := bound.CheckBounds(f, l, 4, sheep(0, 0), b); is || e != api.OK {
		t.Errorf("CheckBounds: %t, error %d", is, e)
	}
	if is, e := bound.CheckBounds(f, l, 3, sheep(0, 0), b); !is || e != api.OK {
		t.Errorf("CheckBounds on the day before: %t, error %d", is, e)
	}
	if x, is, e := bound.Through(f, l, 4, sheep(0, 0), 10); x != nil || is || e != api.OK {
		t.Errorf("Through: %v, %t, error %d", x, is, e)
	}
	if low, high, e := bound.Heads(f, l, 4, 7, 0); low != nil || high != nil || e != api.ErrDoubt {
		t.Errorf("Heads: %v, %v, error %d", low, high, e)
	}
	if low, high, e := bound.Heads(f, l, 4, 8, 0); low != nil || high != nil || e != api.OK {
		t.Errorf("Heads of another owner: %v, %v, error %d", low, high, e)
	}
	if low, high := ends(t, f, l, 4, api.Figure{Owner: 7, Sort: "cow"}); low != 0 || high != 1000 {
		t.Errorf("Ends of another sort: %d, %d", low, high)
	}
	if _, _, e := bound.Heads(f, reports(t, f, l, "7 4 stay 7 ant high 0 1 1"), 4, 7, 0); e != api.ErrDoubt {
		t.Errorf("Heads of two sorts: error %d", e)
	}
}

// G3: bounds that are wrong in one thing.
func TestCheckBoundsOfSample(t *testing.T) {
	f, l, x := sample(t), sampleLog(t), sheep(-1, 1)
	good := func() api.Bounds {
		b, e := bound.Bounds(f, l, 2, x)
		mustOK(t, "Bounds", e)
		return b
	}
	if b := good(); b.Low != 11 || b.High != 12 || len(b.Least) != 53 || len(b.Greatest) != 53 || len(b.Lower) != 19 || len(b.Upper) != 19 {
		t.Errorf("Bounds: %v", b)
	}
	for name, spoil := range map[string]func(b *api.Bounds){
		"Low": func(b *api.Bounds) { b.Low-- }, "High": func(b *api.Bounds) { b.High++ }, "sharper Low": func(b *api.Bounds) { b.Low++ }, "sharper High": func(b *api.Bounds) { b.High-- },
		"histories": func(b *api.Bounds) { b.Least, b.Greatest = b.Greatest, b.Least }, "one history": func(b *api.Bounds) { b.Least = b.Greatest }, "the other one": func(b *api.Bounds) { b.Greatest = b.Least },
		"one history and its value": func(b *api.Bounds) { b.Least, b.Low = b.Greatest, b.High }, "the other one and its value": func(b *api.Bounds) { b.Greatest, b.High = b.Least, b.Low },
		"potentials": func(b *api.Bounds) { b.Lower, b.Upper = b.Upper, b.Lower }, "no Upper": func(b *api.Bounds) { b.Upper = make([]int, 19) }, "no Lower": func(b *api.Bounds) { b.Lower = make([]int, 19) },
		"amounts": func(b *api.Bounds) { b.Least = b.Least[1:] }, "other amounts": func(b *api.Bounds) { b.Greatest = append(b.Greatest, 0) }, "amount": func(b *api.Bounds) { b.Least[2] = -1 }, "a great amount": func(b *api.Bounds) { b.Greatest[2] = 1000001 },
		"no Least": func(b *api.Bounds) { b.Least = nil }, "no Greatest": func(b *api.Bounds) { b.Greatest = nil }, "no list": func(b *api.Bounds) { b.Upper = nil }, "nothing": func(b *api.Bounds) { *b = api.Bounds{} },
		"potential": func(b *api.Bounds) { b.Upper[3] = 10000001 }, "other potential": func(b *api.Bounds) { b.Lower[3] = math.MinInt }, "other potentials": func(b *api.Bounds) { b.Lower = append(b.Lower, 0) },
		"a beast": func(b *api.Bounds) { b.Least[0]++ }, "another one": func(b *api.Bounds) { b.Greatest[50]++ },
	} {
		b := good()
		spoil(&b)
		if is, e := bound.CheckBounds(f, l, 2, x, b); is || e != api.OK {
			t.Errorf("CheckBounds with another %s: %t, error %d", name, is, e)
		}
	}
	if is, e := bound.CheckBounds(f, l, 2, x, good()); !is || e != api.OK {
		t.Errorf("CheckBounds: %t, error %d", is, e)
	}
	if is, e := bound.CheckBounds(f, l, 0, x, good()); is || e != api.OK {
		t.Errorf("CheckBounds on an earlier day: %t, error %d", is, e)
	}
	if is, e := bound.CheckBounds(f, l, 2, sheep(-1, 2), good()); is || e != api.OK {
		t.Errorf("CheckBounds of another figure: %t, error %d", is, e)
	}
}

// G4: the chapter's examples, and what is out of range.
func TestThroughOfSample(t *testing.T) {
	f, l := sample(t), sampleLog(t)
	for _, n := range []int{math.MinInt, -1, 0, 2, 3, 4, 5, 1000, 1001, 1000001, math.MaxInt} {
		x, is, e := bound.Through(f, l, 2, sheep(yard, 1), n)
		if want := n == 3 || n == 4; is != want || (x != nil) != want || e != api.OK {
			t.Errorf("Through with %d: %v, %t, error %d", n, x, is, e)
		}
		if is && (value(t, f, sheep(yard, 1), x) != n || !kept(scene{f: f, l: l, known: 2}.net(t), x)) {
			t.Errorf("Through with %d: %v", n, x)
		}
		if x, is, e := bound.Through(f, l, 2, sheep(-1, 1), n); x != nil || is || e != api.ErrPlace {
			t.Errorf("Through on the fell with %d: %v, %t, error %d", n, x, is, e)
		}
	}
}

// G5: the chapter's example, sorts in their order, and an owner of whom nothing is told.
func TestHeadsOfSample(t *testing.T) {
	f := sample(t)
	l := reports(t, f, sampleLog(t), "6 3 stay 7 cow low 1 2 8", "7 3 stay 7 ant high 2 1 1", "8 3 stay 8 bee high 2 1 1", "9 5 void 6")
	head := func(sort string, n int) api.Head { return api.Head{Sort: sort, Number: n} }
	for _, c := range []struct {
		known, owner, tick int
		low, high          []api.Head
	}{
		{3, 7, 2, []api.Head{head("ant", 1), head("cow", 0), head("sheep", 9)}, []api.Head{head("ant", 1001), head("cow", 2000), head("sheep", 15)}},
		{4, 7, 1, []api.Head{head("ant", 1), head("cow", 2), head("sheep", 11)}, []api.Head{head("ant", 1021), head("cow", 1008), head("sheep", 12)}},
		{5, 7, 0, []api.Head{head("ant", 0), head("sheep", 15)}, []api.Head{head("ant", 1041), head("sheep", 15)}},
		{2, 7, 2, []api.Head{head("sheep", 0)}, []api.Head{head("sheep", 15)}}, {5, 8, 2, []api.Head{head("bee", 1)}, []api.Head{head("bee", 1001)}}, {2, 8, 2, nil, nil}, {-1, 7, 2, nil, nil}, {5, 40, 0, nil, nil}, {5, 1, 0, nil, nil},
	} {
		if low, high, e := bound.Heads(f, l, c.known, c.owner, c.tick); !slices.Equal(low, c.low) || !slices.Equal(high, c.high) || e != api.OK {
			t.Errorf("Heads of %d on the day %d at %d: %v, %v, error %d", c.owner, c.known, c.tick, low, high, e)
		}
	}
	for _, c := range [][2]int{{0, 0}, {41, 0}, {-1, 0}, {7, -1}, {7, 3}, {8, math.MaxInt}, {math.MinInt, math.MinInt}} {
		if low, high, e := bound.Heads(f, l, 3, c[0], c[1]); low != nil || high != nil || e != api.ErrArg {
			t.Errorf("Heads of %d at %d: %v, %v, error %d", c[0], c[1], low, high, e)
		}
	}
	// The yard is no heaf: a tick that there is not is found also where there are no sorts.
	if _, _, e := bound.Heads(f, nil, 0, 7, 3); e != api.ErrArg {
		t.Errorf("Heads of no reports: error %d", e)
	}
}

// shown is the bound of layer 6 that potentials show, in its chapter's words.
func shown(g api.Net, w, p []int) int {
	n := 0
	for i, a := range g.Arcs {
		if rest := w[i] + p[a.From] - p[a.To]; rest > 0 {
			n += rest * a.High
		} else {
			n += rest * a.Low
		}
	}
	return n
}

// checkEnds looks whether all that is said of a figure's ends is what all histories have.
func checkEnds(t *testing.T, c scene, x api.Figure, all [][]int) {
	t.Helper()
	low, high, e := bound.Ends(c.f, c.l, c.known, x)
	b, f := bound.Bounds(c.f, c.l, c.known, x)
	if len(all) == 0 {
		if e != api.ErrDoubt || f != api.ErrDoubt || low != 0 || high != 0 || !reflect.DeepEqual(b, api.Bounds{}) {
			t.Fatalf("%+v, %v: Ends %d, %d, error %d, Bounds %v, error %d", c, x, low, high, e, b, f)
		}
		return
	}
	its := values(t, c.f, x, all)
	if low != slices.Min(its) || high != slices.Max(its) || e != api.OK {
		t.Fatalf("%+v, %v: Ends %d, %d, error %d, want %d, %d", c, x, low, high, e, slices.Min(its), slices.Max(its))
	}
	g := c.net(t)
	w, e := bound.Weights(c.f, x)
	mustOK(t, "Weights", e)
	minus := make([]int, len(w))
	for i := range w {
		minus[i] = -w[i]
	}
	if b.Low != low || b.High != high || f != api.OK || !kept(g, b.Least) || !kept(g, b.Greatest) || value(t, c.f, x, b.Least) != low || value(t, c.f, x, b.Greatest) != high || shown(g, w, b.Upper) != high || shown(g, minus, b.Lower) != -low {
		t.Fatalf("%+v, %v: Bounds %v, error %d, Ends %d, %d", c, x, b, f, low, high)
	}
}

// checkThrough looks whether there are histories with the values that some history has.
func checkThrough(t *testing.T, c scene, x api.Figure, all [][]int) {
	t.Helper()
	its := values(t, c.f, x, all)
	for n := -1; n <= 8; n++ {
		history, is, e := bound.Through(c.f, c.l, c.known, x, n)
		if is != slices.Contains(its, n) || e != api.OK || is && (!kept(c.net(t), history) || value(t, c.f, x, history) != n) || !is && history != nil {
			t.Fatalf("%+v, %v: Through with %d: %v, %t, error %d", c, x, n, history, is, e)
		}
	}
}

// G2 to G4: against all histories of small fells.
func TestEndsOfAll(t *testing.T) {
	r := random(1)
	some, none, apart := 0, 0, 0
	for range 800 {
		c, all := smallScene(t, r)
		if len(all) == 0 {
			none++
		} else {
			some++
		}
		pairs, e := bound.Table(c.f, c.l, c.known, 7, "sheep")
		if len(all) == 0 && (pairs != nil || e != api.ErrDoubt) || len(all) > 0 && (len(pairs) != c.f.Ticks+1 || e != api.OK) {
			t.Fatalf("%+v: Table %v, error %d", c, pairs, e)
		}
		for tick := range c.f.Ticks + 1 {
			for place := -1; place < len(c.f.Places); place++ {
				x := sheep(place, tick)
				checkEnds(t, c, x, all)
				if place >= 0 {
					checkThrough(t, c, x, all)
				}
			}
			if len(all) == 0 {
				continue
			}
			its := values(t, c.f, sheep(-1, tick), all)
			if pairs[tick] != (api.Pair{A: slices.Min(its), B: slices.Max(its)}) {
				t.Fatalf("%+v: Table %v, at %d there are %v", c, pairs, tick, its)
			}
			if pairs[tick].A < pairs[tick].B {
				apart++
			}
		}
	}
	if some < 400 || none < 30 || apart < 400 {
		t.Errorf("%d scenes with histories, %d without, %d ticks whose ends are not the same", some, none, apart)
	}
}

// G5: the ends of each sort of which reports tell.
func TestHeadsOfAll(t *testing.T) {
	r := random(2)
	count := map[int]int{}
	for range 600 {
		c, _ := smallScene(t, r)
		owner, tick := pick(r, 7, 7, 7, 3), r.IntN(c.f.Ticks+1)
		sorts, e := fell.Sorts(c.f, c.l, c.known, owner)
		mustOK(t, "Sorts", e)
		var low, high []api.Head
		want := api.OK
		for _, sort := range sorts {
			least, most, e := bound.Ends(c.f, c.l, c.known, api.Figure{Owner: owner, Sort: sort, Place: -1, Tick: tick})
			want = max(want, e)
			low, high = append(low, api.Head{Sort: sort, Number: least}), append(high, api.Head{Sort: sort, Number: most})
		}
		if want != api.OK {
			low, high = nil, nil
			count[-1]++
		}
		count[len(low)]++
		if some, most, e := bound.Heads(c.f, c.l, c.known, owner, tick); !slices.Equal(some, low) || !slices.Equal(most, high) || e != want {
			t.Fatalf("%+v: Heads of %d at %d: %v, %v, error %d, want %v, %v, error %d", c, owner, tick, some, most, e, low, high, want)
		}
	}
	if count[0] < 20 || count[1] < 50 || count[2] < 100 || count[-1] < 20 {
		t.Errorf("numbers of sorts: %v", count)
	}
}

// G3: bounds that somebody else made are accepted exactly if they show the ends.
func TestCheckBoundsAtRandom(t *testing.T) {
	r := random(3)
	count := map[bool]int{}
	for range 1500 {
		c, all := smallScene(t, r)
		if len(all) == 0 {
			continue
		}
		x := c.figure(r)
		b, e := bound.Bounds(c.f, c.l, c.known, x)
		mustOK(t, "Bounds", e)
		if r.IntN(2) == 0 {
			b.Least = pick(r, all...)
		}
		if r.IntN(2) == 0 {
			b.Greatest = pick(r, all...)
		}
		if r.IntN(4) == 0 {
			node := r.IntN(len(b.Upper))
			b.Upper[node], b.Lower[node] = b.Upper[node]+pick(r, 0, 1, -1), b.Lower[node]+pick(r, 0, 1, -1)
		}
		if r.IntN(2) == 0 {
			b.Low, b.High = value(t, c.f, x, b.Least), value(t, c.f, x, b.Greatest)
		}
		w, e := bound.Weights(c.f, x)
		mustOK(t, "Weights", e)
		minus := make([]int, len(w))
		for i := range w {
			minus[i] = -w[i]
		}
		g := c.net(t)
		want := value(t, c.f, x, b.Least) == b.Low && value(t, c.f, x, b.Greatest) == b.High && shown(g, w, b.Upper) == b.High && shown(g, minus, b.Lower) == -b.Low
		count[want]++
		if is, e := bound.CheckBounds(c.f, c.l, c.known, x, b); is != want || e != api.OK {
			t.Fatalf("%+v, %v: CheckBounds of %v: %t, error %d, want %t", c, x, b, is, e, want)
		}
	}
	if count[true] < 200 || count[false] < 200 {
		t.Errorf("bounds accepted, and not: %v", count)
	}
}
