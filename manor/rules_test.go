package manor_test

import (
	"fmt"
	"math"
	"math/rand/v2"
	"reflect"
	"slices"
	"strings"
	"testing"

	"couchant/api"
	"couchant/manor"
)

// R5: a manor that there is not.
func TestNil(t *testing.T) {
	var m *manor.Manor
	for _, name := range []string{"write", "want", "free", "charge", "fee", "pay", "waive", "settle", "send", "carry", "lose", "repeat", "stop", "crash"} {
		for _, c := range []command{{name: name}, {name: name, n: [4]int{-1, 9, -1}, text: strings.Repeat("x", 2001), keep: []int{1}}} {
			if x := c.of(m); x != (outcome{e: api.ErrNil}) {
				t.Errorf("%s of no manor: %v", name, x)
			}
		}
	}
	if m.Today() != 0 || len(m.Entries()) != 0 || !sameBooks(m.Books(), api.Books{}) || m.Audit() != (api.Finding{}) || len(m.Roll(0))+len(m.Holds(0))+len(m.Promises(0)) > 0 {
		t.Error("no manor knows something")
	}
}

// Methods with a reeve that there is not.
func TestNoReeve(t *testing.T) {
	for _, n := range []int{3, 5} {
		m := newManor(t, n)
		for _, i := range []int{-1, n, math.MinInt, math.MaxInt} {
			for _, name := range []string{"want", "free", "fee", "pay", "waive", "settle", "stop", "crash"} {
				if x := (command{name: name, n: [4]int{i}, text: "ewe"}).of(m); x != (outcome{e: api.ErrArg}) {
					t.Errorf("%s of the reeve %d: %v", name, i, x)
				}
			}
			if len(m.Roll(i))+len(m.Holds(i))+len(m.Promises(i)) > 0 {
				t.Errorf("the reeve %d knows something", i)
			}
		}
	}
}

// odd returns a number, often one that nothing is prepared for.
func odd(r *rand.Rand) int {
	return pick(r, 0, 1, 2, 3, 5, r.IntN(8), -1, -2, math.MinInt, math.MaxInt, math.MinInt+1, math.MaxInt/2+1, 7, 24, 25, 40, 41, 100, 300, 400, 401, 599, 600, 1000, 5040, 100000, 100001, 1000000, 1000001, int(r.Uint64()))
}

// oddOr returns a number that is right or not.
func oddOr(r *rand.Rand, right int) int {
	if r.IntN(3) == 0 {
		return odd(r)
	}
	return right
}

func oddText(r *rand.Rand) string {
	var b strings.Builder
	for range r.IntN(9) {
		b.WriteString(pick(r, "entry", "prev", "bound", "house", "judge", "complain", "sure", "by", "0", "1", "7", "sheep", "high", "over", "\n", "\x00", "\xff", "", "01", "-1", "99999999999999999999"))
		b.WriteString(pick(r, " ", " ", "\n", ""))
	}
	return b.String()
}

func oddStep(r *rand.Rand) api.Step {
	return api.Step{
		Id: oddOr(r, 1+r.IntN(6)), Day: oddOr(r, r.IntN(60)), Kind: uint8(oddOr(r, 1+r.IntN(6))), Of: oddOr(r, r.IntN(4)), Owner: oddOr(r, 7), Tick: oddOr(r, 1),
		Fine: pick(r, "over", "over", "", "x", oddText(r)), Verdict: uint8(oddOr(r, 1+r.IntN(3))), Amount: oddOr(r, 0),
	}
}

// oddBooks returns books that no entries make.
func oddBooks(r *rand.Rand, b api.Books) api.Books {
	b = api.Books{Fell: b.Fell, Rules: b.Rules, House: b.House, Equals: append([]api.Equal{}, b.Equals...), Deeds: append([]api.Deed{}, b.Deeds...), Recounts: b.Recounts, Reports: append([]api.Report{}, b.Reports...), Steps: append([]api.Step{}, b.Steps...)}
	for range 1 + r.IntN(3) {
		switch r.IntN(8) {
		case 0:
			b.Fell = api.Fell{Ticks: odd(r), Yield: odd(r), Places: []api.Place{{Name: oddText(r), Kind: uint8(odd(r))}}}
		case 1:
			b.Rules.Fines = append([]api.Fine{{Name: "over", When: api.Expr{{Op: uint8(odd(r)), A: odd(r), B: odd(r)}}}}, b.Rules.Fines...)
		case 2:
			b.House = api.Rate{Misses: odd(r), Doubles: odd(r)}
		case 3:
			b.Equals = append(b.Equals, api.Equal{Id: odd(r), Known: odd(r), Sort: oddText(r), Stints: api.Frac{Num: odd(r), Den: odd(r)}})
		case 4:
			b.Deeds = append(b.Deeds, api.Deed{Id: odd(r), Known: odd(r), Kind: uint8(odd(r)), To: 7, Parts: odd(r)})
		case 5:
			b.Reports = append(b.Reports, api.Report{Id: odd(r), Known: odd(r), Kind: uint8(odd(r)), Owner: 7, Sort: "sheep", At: odd(r)})
		default:
			b.Steps = append(b.Steps, oddStep(r))
		}
	}
	return b
}

// R1, R2, R4: functions of steps and books with all that there can be: they return, nothing beside an error, and the same again.
func TestOddBooks(t *testing.T) {
	r := random(21)
	returned := map[string]int{}
	base := sheepBooks(t)
	base.Steps = readSteps(t, "1 0 complain 7 1 over", "2 0 summon 1", "3 30 judge 1 sure 48")
	for range 8000 {
		b := oddBooks(r, base)
		before := fmt.Sprintf("%+v", b)
		x, id, day := oddStep(r), oddOr(r, r.IntN(5)), oddOr(r, r.IntN(60))
		if r.IntN(2) == 0 {
			x = readSteps(t, pick(r, "9 40 complain 7 1 over", "9 40 complain 7 9 over", "9 40 reopen 1", "9 40 reopen 2", "9 20 reopen 1", "9 40 judge 1 sure 48", "9 40 view 1"))[0]
			x.Id = nextId(stepIds(b)...)
		}
		e := manor.CheckStep(b, x)
		state, cases := manor.Case(b, id), manor.Cases(b)
		v, amount, f := manor.Due(b, id, day)
		judgment, is := manor.Judged(b, id)
		returned[fmt.Sprint("CheckStep ", int(e))]++
		returned[fmt.Sprint("Due ", int(f))]++
		if !slices.IsSorted(cases) {
			t.Fatalf("Cases of %+v: %v", b, cases)
		}
		if f != api.OK && (v != api.Verdict{} || amount != 0) || !is && judgment != (api.Step{}) {
			t.Fatalf("Due, Judged of %+v: %v, %d, %d, %v", b, v, amount, f, judgment)
		}
		again, amountAgain, fAgain := manor.Due(b, id, day)
		if manor.CheckStep(b, x) != e || manor.Case(b, id) != state || !reflect.DeepEqual(manor.Cases(b), cases) || again != v || amountAgain != amount || fAgain != f {
			t.Fatalf("another result the second time, for %+v", b)
		}
		if fmt.Sprintf("%+v", b) != before {
			t.Fatalf("an argument is changed: %s", before)
		}
	}
	for _, key := range []string{"CheckStep 0", "CheckStep 1", "CheckStep 7", "CheckStep 5", "CheckStep 8", "Due 0", "Due 5", "Due 1"} {
		if returned[key] < 5 {
			t.Errorf("%s only %d times", key, returned[key])
		}
	}
}

// oddEntries returns entries of which some are odd.
func oddEntries(r *rand.Rand, l []api.Entry) []api.Entry {
	l = append([]api.Entry{}, l...)
	for range r.IntN(3) {
		i := r.IntN(len(l))
		x := &l[i]
		switch r.IntN(5) {
		case 0:
			x.Seq = odd(r)
		case 1:
			x.Day = odd(r)
		case 2:
			x.Kind = uint8(odd(r))
		case 3:
			x.Body = oddText(r)
		default:
			x.Body = strings.Repeat("x", pick(r, 1900, 1901, 20000, 20001))
		}
		if r.IntN(3) > 0 {
			l = relinked(l)
		}
	}
	return l
}

// R1 to R4: functions of entries and texts with all that there can be.
func TestOddEntries(t *testing.T) {
	r := random(22)
	base := transcript(t, "table equal sheep 0 1 4", "deed 0 enter 7 5040", "count stay 7 sheep high 1 3 10 2", "step complain 7 1 over", "step summon 1", "bound 7 sheep 1", "day 21", "judge 1", "note x")
	failed := map[string]int{}
	for range 1500 {
		l := oddEntries(r, base)
		before := fmt.Sprint(l)
		at, linked := manor.Linked(l)
		x, next := manor.Next(l, oddOr(r, 21), uint8(oddOr(r, 11)), oddText(r))
		texts, papers := manor.Papers(l)
		finding, told := manor.Check(l), manor.Told(l)
		n := oddOr(r, 3)
		posting := api.Posting{Reeve: oddOr(r, 1), Number: oddOr(r, 1), Tick: oddOr(r, 21), Kind: uint8(oddOr(r, 1)), Case: oddOr(r, 1), Owner: oddOr(r, 7), Amount: oddOr(r, 18)}
		_, backed := manor.Backed(l, n, []api.Posting{posting})
		if linked == api.OK && at != 0 || next != api.OK && x != (api.Entry{}) || papers != api.OK && len(texts) > 0 || finding.Ok && finding != (api.Finding{Ok: true}) {
			t.Fatalf("something beside an error, for %v", l)
		}
		for what, e := range map[string]api.Errno{"Linked": linked, "Next": next, "Papers": papers, "Backed": backed} {
			failed[fmt.Sprint(what, " ", e != api.OK)]++
		}
		if fmt.Sprint(l) != before || manor.Check(l) != finding || !sameBooks(manor.Told(l), told) {
			t.Fatalf("an argument is changed, or the result is another one the second time: %s", before)
		}
	}
	for _, what := range []string{"Linked", "Next", "Papers", "Backed"} {
		if failed[what+" true"] < 20 || failed[what+" false"] < 20 {
			t.Errorf("%s: %v", what, failed)
		}
	}
	for range 20000 {
		s := oddText(r)
		if x, e := manor.GetEntry(s); e != api.OK && x != (api.Entry{}) {
			t.Fatalf("GetEntry(%q): %v, %d", s, x, e)
		}
		if x, e := manor.ReadStep(s); e != api.OK && x != (api.Step{}) {
			t.Fatalf("ReadStep(%q): %v, %d", s, x, e)
		}
		if got, at, e := manor.Run(s); e != api.OK && (got != "" || at < 1) || e == api.OK && at != 0 {
			t.Fatalf("Run(%q): %q, %d, %d", s, got, at, e)
		}
	}
}

// R1, R2: setups, texts and methods with all that there can be: an error leaves everything as it is.
func TestOddManors(t *testing.T) {
	r := random(23)
	made := 0
	for range 300 {
		s := api.Setup{Reeves: oddOr(r, 3), Sectors: oddOr(r, 1000), Fell: pick(r, fellS, fellS, oddText(r)), Rules: pick(r, rulesS, rulesS, oddText(r)), House: api.Rate{Misses: oddOr(r, 0), Doubles: oddOr(r, 10)}}
		l, answers, e := manor.Process(s, []string{oddText(r), "note x"})
		if e != api.OK && len(l)+len(answers) > 0 {
			t.Fatalf("Process(%+v): %v, %v, %d", s, l, answers, e)
		}
		m, e := manor.New(s)
		if (m == nil) != (e != api.OK) {
			t.Fatalf("New(%+v): %v, %d", s, m, e)
		}
		if m == nil {
			continue
		}
		made++
		for range 200 {
			c := someCommand(r, s.Reeves)
			for i := range c.n {
				c.n[i] = oddOr(r, c.n[i])
			}
			if r.IntN(8) == 0 {
				c = command{name: "write", text: pick(r, oddText(r), recordPaper(r), otherText(r, recordPaper(r)))}
			}
			before := ""
			isCheap := c.name != "crash" && c.name != "carry" && r.IntN(4) == 0
			if isCheap {
				before = stateOf(m)
			}
			x := c.of(m)
			if x.e != api.OK && x.n != 0 || isCheap && x.e != api.OK && stateOf(m) != before {
				t.Fatalf("%+v: %v, and it changes something", c, x)
			}
		}
		if x := m.Audit(); !x.Ok {
			t.Fatalf("Audit: %+v", x)
		}
	}
	if made < 20 {
		t.Errorf("only %d manors", made)
	}
}

// R3: results are new memory, and nil is as good as an empty list.
func TestNewMemory(t *testing.T) {
	texts := []string{"table equal sheep 0 1 4", "deed 0 heirs 7 8 1 9 2", "deed 0 enter 7 5040", "count stay 7 sheep high 1 3 10 2", "step complain 7 1 over", "recount 0 3 100 95"}
	m := newManor(t, 3)
	for _, text := range texts {
		answersTo(t, m, text, api.OK)
	}
	if _, e := m.Fee(1, 4, 12, 40); e != api.OK {
		t.Errorf("Fee: %d", e)
	}
	if _, e := m.Want(1, "ewe", 5); e != api.OK {
		t.Errorf("Want: %d", e)
	}
	mustOK(t, "Send", m.Send(1, 0))
	mustOK(t, "Carry", m.Carry(1, 0, 1))
	mustOK(t, "Carry", m.Carry(0, 1, 0))
	before := stateOf(m)
	l := m.Entries()
	l[3].Body = "x"
	b := m.Books()
	b.Equals[0].Sort, b.Deeds[0].Heirs[0], b.Reports[0].High, b.Steps[0].Fine, b.Recounts[0].True, b.Fell.Places[0].Name, b.Rules.Fines[0].When[0].Op = "x", 1, 1, "x", 1, "x", 0
	m.Roll(1)[0].Amount = 1
	m.Holds(1)[0].Tag = "x"
	m.Promises(1)[0].Tag = "x"
	if stateOf(m) != before {
		t.Error("results share memory with a manor")
	}
	keep := []int{64}
	mustOK(t, "Crash", m.Crash(1, keep))
	if keep[0] != 64 {
		t.Error("Crash changes its argument")
	}
	entries := transcript(t, texts...)
	first, second := manor.Told(entries), manor.Told(entries)
	first.Equals[0].Sort, first.Deeds[0].Heirs[0], first.Rules.Fines[0].When[0].Op = "x", 1, 0
	if second.Equals[0].Sort != "sheep" || second.Deeds[0].Heirs[0] != 8 || second.Rules.Fines[0].When[0].Op == 0 {
		t.Error("two results share memory")
	}
	if manor.Check(nil) != manor.Check([]api.Entry{}) || manor.Check(nil) != (api.Finding{What: api.FindFirst}) {
		t.Errorf("Check of nothing: %v", manor.Check(nil))
	}
	a, _, e := manor.Process(setupS(), nil)
	c, _, f := manor.Process(setupS(), []string{})
	if e != f || !reflect.DeepEqual(a, c) {
		t.Error("no texts")
	}
	// A longer transcript does not write into the memory of a shorter one.
	short := m.Entries()
	rest := append(short[:3:cap(short)], api.Entry{})
	_ = rest
	if stateOf(m) != before {
		t.Error("the capacity of Entries is memory of the manor")
	}
}
