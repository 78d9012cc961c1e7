package fell_test

import (
	"fmt"
	"slices"
	"strings"
	"testing"

	"couchant/api"
	"couchant/fell"
)

// places returns so many places with different names.
func places(size int) []api.Place {
	var l []api.Place
	for i := range size {
		l = append(l, api.Place{Name: fmt.Sprintf("p%d", i), Kind: api.PlaceHeaf})
	}
	return l
}

// gates returns so many gates with different names between the first two places.
func gates(size int) []api.Gate {
	var l []api.Gate
	for i := range size {
		l = append(l, api.Gate{Name: fmt.Sprintf("g%d", i), A: i % 2, B: 1 - i%2, Most: i})
	}
	return l
}

// fellFault makes something of a fell invalid.
type fellFault struct {
	name string
	do   func(f *api.Fell)
	e    api.Errno
}

// fellFaults returns what can be wrong with a fell that has room for a place and a gate more, in the order in which that is said.
func fellFaults() []fellFault {
	var l []fellFault
	add := func(e api.Errno, name string, do func(f *api.Fell)) { l = append(l, fellFault{name, do, e}) }
	add(api.ErrLimit, "places", func(f *api.Fell) { f.Places = append(f.Places, places(9)...) })
	add(api.ErrLimit, "gates", func(f *api.Fell) { f.Gates = append(f.Gates, gates(13)...) })
	add(api.ErrLimit, "many ticks", func(f *api.Fell) { f.Ticks = 25 })
	add(api.ErrNone, "no tick", func(f *api.Fell) { f.Ticks = 0 })
	add(api.ErrNone, "ticks below", func(f *api.Fell) { f.Ticks = -1 })
	add(api.ErrForm, "place without a name", func(f *api.Fell) { f.Places = append(f.Places, api.Place{Kind: 1}) })
	add(api.ErrForm, "name of a gate", func(f *api.Fell) { f.Gates = append(f.Gates, api.Gate{Name: "1a", A: 0, B: 1}) })
	add(api.ErrTwice, "place twice", func(f *api.Fell) { f.Places = append(f.Places, api.Place{Name: f.Places[0].Name, Kind: 2}) })
	add(api.ErrTwice, "gate twice", func(f *api.Fell) { f.Gates = append(f.Gates, api.Gate{Name: f.Gates[0].Name, A: 1, B: 2}) })
	add(api.ErrArg, "no kind", func(f *api.Fell) { f.Places = append(f.Places, api.Place{Name: "none"}) })
	add(api.ErrArg, "kind above", func(f *api.Fell) { f.Places = append(f.Places, api.Place{Name: "above", Kind: 3}) })
	add(api.ErrArg, "most below", func(f *api.Fell) { f.Gates = append(f.Gates, api.Gate{Name: "below", B: 1, Most: -1}) })
	add(api.ErrArg, "most above", func(f *api.Fell) { f.Gates = append(f.Gates, api.Gate{Name: "above", B: 1, Most: 1001}) })
	add(api.ErrArg, "yield below", func(f *api.Fell) { f.Yield = -1 })
	add(api.ErrArg, "yield above", func(f *api.Fell) { f.Yield = 1001 })
	add(api.ErrPlace, "from nowhere", func(f *api.Fell) { f.Gates = append(f.Gates, api.Gate{Name: "from", A: -1, B: 1}) })
	add(api.ErrPlace, "to nowhere", func(f *api.Fell) { f.Gates = append(f.Gates, api.Gate{Name: "to", A: 1, B: 8}) })
	add(api.ErrPlace, "round", func(f *api.Fell) { f.Gates = append(f.Gates, api.Gate{Name: "round", A: 1, B: 1}) })
	return l
}

// E1: whichever two faults a fell has, the one that is named first decides, and wherever they stand.
func TestCheckFell(t *testing.T) {
	if e := fell.CheckFell(sample(t)); e != api.OK {
		t.Errorf("CheckFell of the sample: error %d", e)
	}
	all := fellFaults()
	for i, first := range all {
		for _, second := range all[i:] {
			for range 2 {
				f := sample(t)
				first.do(&f)
				if second.name != first.name {
					second.do(&f)
				}
				// A fault that undoes the first one decides itself.
				want := fellError(f)
				if want != first.e && want != second.e || want == api.OK {
					t.Fatalf("the faults %q and %q are the error %d", first.name, second.name, want)
				}
				if got := fell.CheckFell(f); got != want {
					t.Errorf("CheckFell with the faults %q and %q: error %d, want %d", first.name, second.name, got, want)
				}
				first, second = second, first
			}
		}
	}
}

// E1: the ends of all that has some.
func TestCheckFellAtTheEnds(t *testing.T) {
	for _, f := range []api.Fell{
		{Ticks: 1, Places: places(1)},
		{Ticks: 24, Yield: 1000, Places: places(8), Gates: gates(12)},
		{Ticks: 24, Places: []api.Place{{Name: "a", Kind: 2}, {Name: strings.Repeat("z", 24), Kind: 1}}, Gates: []api.Gate{{Name: "a", A: 1, B: 0, Most: 1000}, {Name: "z-9-", A: 0, B: 1}}},
	} {
		if e := fell.CheckFell(f); e != api.OK {
			t.Errorf("CheckFell(%v): error %d", f, e)
		}
	}
	for want, list := range map[api.Errno][]api.Fell{
		api.ErrNone:  {{}, {Ticks: 1}, {Places: places(1)}, {Ticks: 24, Gates: gates(12)}},
		api.ErrLimit: {{Ticks: 25}, {Places: places(9)}, {Gates: gates(13)}, {Ticks: 1, Places: make([]api.Place, 9)}},
		api.ErrPlace: {{Ticks: 1, Places: places(1), Gates: gates(1)}},
	} {
		for _, f := range list {
			if e := fell.CheckFell(f); e != want {
				t.Errorf("CheckFell(%v): error %d, want %d", f, e, want)
			}
		}
	}
}

// E1: which strings are names.
func TestNames(t *testing.T) {
	good := []string{"a", "z", "a1", "a-", "a--b", "stay", strings.Repeat("a", 24)}
	bad := []string{"", "-", "-a", "1", "1a", "A", "aB", "a b", " a", "a ", "a_b", "a.b", "a\n", "ä", "aä", "a\x00", "a\xff", "`", "{", "a`", "a{", "a/", "a:", "a,", strings.Repeat("a", 25), strings.Repeat("a", 5000)}
	f := sample(t)
	for want, names := range map[api.Errno][]string{api.OK: good, api.ErrForm: bad} {
		for _, name := range names {
			g, h := f, f
			g.Places = append(slices.Clone(f.Places), api.Place{Name: name, Kind: 1})
			h.Gates = append(slices.Clone(f.Gates), api.Gate{Name: name, B: 1})
			if e, eToo := fell.CheckFell(g), fell.CheckFell(h); e != want || eToo != want {
				t.Errorf("CheckFell with the name %q: of a place error %d, of a gate error %d, want %d", name, e, eToo, want)
			}
		}
	}
}

// E3: names.
func TestPlaceOfAndGateOf(t *testing.T) {
	f := sample(t)
	f.Gates = append(f.Gates, api.Gate{Name: "high", A: 2, B: 0})
	for name, want := range map[string][4]int{"high": {0, 0, 2, 0}, "low": {1, 0, 0, 5}, "yard": {2, 0, 0, 5}, "gap": {0, 5, 0, 0}, "lane": {0, 5, 1, 0}, "": {0, 5, 0, 5}, "hig": {0, 5, 0, 5}, "highh": {0, 5, 0, 5}, "High": {0, 5, 0, 5}, "low ": {0, 5, 0, 5}} {
		place, e := fell.PlaceOf(f, name)
		gate, eToo := fell.GateOf(f, name)
		if got := [4]int{place, int(e), gate, int(eToo)}; got != want {
			t.Errorf("PlaceOf and GateOf of %q: %v, want %v", name, got, want)
		}
	}
}

// E3: neighbours.
func TestBeside(t *testing.T) {
	f := api.Fell{Ticks: 1, Places: places(6), Gates: []api.Gate{{Name: "a", A: 4, B: 1}, {Name: "b", A: 1, B: 3}, {Name: "c", A: 1, B: 4}, {Name: "d", A: 0, B: 1}, {Name: "e", A: 4, B: 3, Most: 0}}}
	for place, want := range [][]int{{1}, {0, 3, 4}, {}, {1, 4}, {1, 3}, {}} {
		if got, e := fell.Beside(f, place); !slices.Equal(got, want) || e != api.OK {
			t.Errorf("Beside(%d): %v, error %d, want %v", place, got, e, want)
		}
	}
	for _, place := range []int{-1, 6, 8, 1 << 62, -1 << 63} {
		if got, e := fell.Beside(f, place); len(got) > 0 || e != api.ErrPlace {
			t.Errorf("Beside(%d): %v, error %d", place, got, e)
		}
	}
}

// E3: ways.
func TestWays(t *testing.T) {
	// A row of five places with a short cut, a pair, and one alone.
	f := api.Fell{Ticks: 1, Places: places(8), Gates: []api.Gate{{Name: "a", A: 1, B: 0}, {Name: "b", A: 1, B: 2}, {Name: "c", A: 3, B: 2}, {Name: "d", A: 3, B: 4}, {Name: "e", A: 0, B: 3, Most: 0}, {Name: "f", A: 6, B: 5}}}
	want := [][]int{{0, 1, 2, 1, 2, -1, -1, -1}, {1, 0, 1, 2, 3, -1, -1, -1}, {2, 1, 0, 1, 2, -1, -1, -1}, {1, 2, 1, 0, 1, -1, -1, -1}, {2, 3, 2, 1, 0, -1, -1, -1}, {-1, -1, -1, -1, -1, 0, 1, -1}, {-1, -1, -1, -1, -1, 1, 0, -1}, {-1, -1, -1, -1, -1, -1, -1, 0}}
	for from, row := range want {
		for to, n := range row {
			e := api.OK
			if n < 0 {
				n, e = 0, api.ErrNone
			}
			if got, eToo := fell.Ways(f, from, to); got != n || eToo != e {
				t.Errorf("Ways(%d, %d): %d, error %d, want %d, error %d", from, to, got, eToo, n, e)
			}
		}
	}
	for _, pair := range [][2]int{{-1, 0}, {0, -1}, {8, 0}, {0, 8}, {9, 9}, {-1, -1}} {
		if got, e := fell.Ways(f, pair[0], pair[1]); got != 0 || e != api.ErrPlace {
			t.Errorf("Ways(%v): %d, error %d", pair, got, e)
		}
	}
}

// The chapter's examples of E3 and E7.
func TestExamplesOfFells(t *testing.T) {
	f := sample(t)
	if nodes, arcs := fell.Nodes(f), fell.Arcs(f); nodes != 19 || arcs != 53 {
		t.Errorf("%d nodes, %d arcs", nodes, arcs)
	}
	if l, e := fell.Beside(f, 1); !slices.Equal(l, []int{0, 2}) || e != api.OK {
		t.Errorf("Beside: %v, error %d", l, e)
	}
	if n, e := fell.Ways(f, 0, 2); n != 2 || e != api.OK {
		t.Errorf("Ways: %d, error %d", n, e)
	}
}
