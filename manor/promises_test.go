package manor_test

import (
	"fmt"
	"math/rand/v2"
	"slices"
	"strings"
	"testing"

	"couchant/api"
	"couchant/bound"
	"couchant/manor"
	"couchant/pound"
	"couchant/rule"
)

// again returns the transcript that a manor with the first three Bodies of entries makes of their papers.
func again(t *testing.T, l []api.Entry) ([]api.Entry, bool) {
	t.Helper()
	texts, e := manor.Papers(l)
	mustOK(t, "Papers", e)
	s := api.Setup{Fell: l[0].Body, Rules: l[1].Body}
	fmt.Sscanf(l[2].Body, "house %d %d", &s.House.Misses, &s.House.Doubles)
	made, answers, e := manor.Process(s, texts)
	mustOK(t, "Process", e)
	return made, !slices.ContainsFunc(answers, func(e api.Errno) bool { return e != api.OK })
}

// P10.2 (T10, exactly): transcripts are accepted, and what is accepted is a transcript, also where something was changed. P10.3 (T10, beginnings). P10.4 (T10, changes).
func TestTranscripts(t *testing.T) {
	r := random(41)
	accepted, refused := 0, 0
	for range 120 {
		s := setups(r)
		texts := papers(t, r, s, 10+r.IntN(50))
		l, _, e := manor.Process(s, texts)
		mustOK(t, "Process", e)
		for range 10 {
			c := l
			for range r.IntN(3) {
				if len(c) > 0 {
					c = changed(r, c)
				}
			}
			finding := manor.Check(c)
			if finding.Ok {
				accepted++
				if made, all := again(t, c); !all || !slices.Equal(made, c) {
					t.Fatalf("%q is accepted, but its papers make %q", bodies(c), bodies(made))
				}
				asBeginnings(t, r, c)
				continue
			}
			refused++
			if finding.At < len(c) {
				same := append(slices.Clone(c[:finding.At+1]), l[:r.IntN(len(l))]...)
				if got := manor.Check(same); got != finding {
					t.Fatalf("Check of %q: %+v, want %+v", bodies(same), got, finding)
				}
			}
		}
		fewer, _, _ := manor.Process(s, texts[:r.IntN(len(texts))])
		if len(fewer) > len(l) || !slices.Equal(fewer, l[:len(fewer)]) {
			t.Fatalf("fewer texts: %q, more: %q", bodies(fewer), bodies(l))
		}
	}
	if accepted < 300 || refused < 200 {
		t.Errorf("accepted %d, refused %d", accepted, refused)
	}
}

// asBeginnings asks for what is promised of the beginnings of a transcript, and of one in which a Body is replaced.
func asBeginnings(t *testing.T, r *rand.Rand, l []api.Entry) {
	t.Helper()
	n := r.IntN(len(l) + 1)
	want := api.Finding{Ok: true}
	if n < 3 {
		want = api.Finding{At: n, What: api.FindFirst}
	}
	if got := manor.Check(l[:n]); got != want {
		t.Fatalf("Check of the first %d of %q: %+v", n, bodies(l), got)
	}
	i := r.IntN(len(l) - 1)
	c := slices.Clone(l)
	c[i].Body = otherText(r, c[i].Body)
	if c[i].Body == l[i].Body {
		return
	}
	if got := manor.Check(c); got.Ok || got.At != i && got.At != i+1 {
		t.Fatalf("Check of %q, in which %d is another one than in %q: %+v", bodies(c), i, bodies(l), got)
	}
}

// between yields some plights that lie between two ends.
func between(r *rand.Rand, low, high api.Plight, n int) []api.Plight {
	l := []api.Plight{low, high}
	for range n {
		p := low
		p.Herds = slices.Clone(low.Herds)
		for i := range p.Herds {
			p.Herds[i].Number += r.IntN(high.Herds[i].Number - low.Herds[i].Number + 1)
		}
		l = append(l, p)
	}
	return l
}

// P10.5 (T6, T8, judgments): a sure fine is at most what is due whatever is true, one that is not due is due in nothing that may be true.
func TestJudgments(t *testing.T) {
	r := random(42)
	kinds := map[uint8]int{}
	for range 250 {
		s := setups(r)
		l, _, e := manor.Process(s, papers(t, r, s, 30+r.IntN(50)))
		mustOK(t, "Process", e)
		for i, entry := range l {
			x, e := manor.ReadStep(entry.Body)
			if entry.Kind != api.EntStep || e != api.OK || x.Kind != api.StepJudge {
				continue
			}
			// What came later on the same day was not known yet.
			b := manor.Told(l[:i])
			c := docketOf(b).complaint[x.Of]
			low, high, e := modelPlights(b, c, x.Day)
			mustOK(t, "the plights", e)
			fine := slices.IndexFunc(b.Rules.Fines, func(f api.Fine) bool { return f.Name == c.Fine })
			kinds[x.Verdict]++
			for _, p := range between(r, low, high, 30) {
				due, e := rule.Fine(b.Rules, fine, p)
				mustOK(t, "Fine", e)
				is, e := rule.Holds(b.Rules.Fines[fine].When, p)
				mustOK(t, "Holds", e)
				if x.Verdict == api.VerdictSure && (!is || due.Num < x.Amount*due.Den) || x.Verdict == api.VerdictNone && is {
					t.Fatalf("%+v of %q, but in %+v it is %t and %v", x, bodies(l), p, is, due)
				}
			}
		}
	}
	for kind := api.VerdictSure; kind <= api.VerdictOpen; kind++ {
		if kinds[kind] < 20 {
			t.Errorf("judgments: %v", kinds)
		}
	}
}

// idsOf returns the ends that the Body of a bound tells, and its two lists of Ids.
func idsOf(body string) (ends [2]int, ids [2][]int) {
	list := -1
	for i, w := range strings.Fields(body) {
		switch {
		case i == 4 || i == 5:
			ends[i-4] = atoi(w)
		case w == "lower" || w == "upper":
			list++
		case i > 5:
			ids[list] = append(ids[list], atoi(w))
		}
	}
	return ends, ids
}

// P10.6 (T6, lineage): the Ids of a bound are a lineage, and it stays while these reports count and others are only withdrawn.
func TestBoundsStay(t *testing.T) {
	r := random(43)
	stayed, withdrawn := 0, 0
	for range 150 {
		s := setups(r)
		w := newSeason(t, r, s)
		for range 40 {
			w.write()
		}
		sort, tick := pick(r, "sheep", "cow"), r.IntN(2)
		text := fmt.Sprintf("bound 7 %s %d", sort, tick)
		if w.m.Write(text) != api.OK {
			continue
		}
		l := w.m.Entries()
		body := l[len(l)-1].Body
		ends, ids := idsOf(body)
		b := w.m.Books()
		x := api.Figure{Owner: 7, Sort: sort, Place: api.AllPlaces, Tick: tick}
		for i := range 2 {
			is, e := bound.CheckLineage(b.Fell, b.Reports, w.m.Today(), x, i == 1, ends[i], ids[i])
			if !is || e != api.OK {
				t.Fatalf("CheckLineage of %q in %q: %t, %d", body, bodies(l), is, e)
			}
		}
		for _, report := range b.Reports {
			if !slices.Contains(ids[0], report.Id) && !slices.Contains(ids[1], report.Id) && r.IntN(2) == 0 && w.m.Write(fmt.Sprint("report void ", report.Id)) == api.OK {
				withdrawn++
			}
		}
		mustOK(t, text, w.m.Write(text))
		l = w.m.Entries()
		if now, _ := idsOf(l[len(l)-1].Body); now != ends {
			t.Fatalf("%q is told, and then %q, in %q", body, l[len(l)-1].Body, bodies(l))
		}
		stayed++
	}
	if stayed < 50 || withdrawn < 50 {
		t.Errorf("stayed %d, withdrawn %d", stayed, withdrawn)
	}
}

// world is a manor in which much happens, and which knows which reeves' disks have been down since they were opened.
type world struct {
	r    *rand.Rand
	m    *manor.Manor
	n    int
	down map[int]bool
}

func newWorld(t *testing.T, r *rand.Rand) *world {
	t.Helper()
	s := setupS()
	s.Reeves = pick(r, 3, 5)
	m, e := manor.New(s)
	mustOK(t, "New", e)
	for _, text := range begin() {
		mustOK(t, text, m.Write(text))
	}
	return &world{r: r, m: m, n: s.Reeves, down: map[int]bool{}}
}

// act lets something happen.
func (w *world) act(t *testing.T) {
	t.Helper()
	r, m := w.r, w.m
	c := someCommand(r, w.n)
	if k := r.IntN(40); k == 0 {
		c = command{name: "write", text: fmt.Sprint("day ", m.Today()+r.IntN(3))}
	} else if k == 1 {
		c = command{name: "write", text: pick(r, "judge 6", "judge 1", "step reopen 1", "step reopen 2", "judge 2", "report stay 7 sheep high 1 22 22")}
	}
	// What a reeve does: the home of a case, who hears, or the first number.
	reeve := c.n[0]
	if c.name == "carry" {
		reeve = c.n[1]
	} else if c.name == "charge" {
		reeve = c.n[0] % w.n
	}
	before := ""
	if c.name == "crash" && !w.down[reeve] {
		before = stateOf(m)
	}
	x := c.of(m)
	switch {
	case x.e == api.ErrDown:
		w.down[reeve] = true
	case c.name == "crash" && x.e == api.OK:
		if before != "" && stateOf(m) != before {
			t.Fatalf("P10.10: a crash of the reeve %d changes %s to %s", reeve, before, stateOf(m))
		}
		delete(w.down, reeve)
	}
}

// P10.7 (T9, no beast twice).
func (w *world) asksOneHolder(t *testing.T) int {
	t.Helper()
	holder := map[string]int{}
	for i := range w.n {
		for _, x := range w.m.Holds(i) {
			if other, is := holder[x.Tag]; is && other != i {
				t.Fatalf("P10.7: %s is impounded by %d and %d", x.Tag, other, i)
			}
			holder[x.Tag] = i
		}
	}
	return len(holder)
}

// P10.8 (T9, no fine twice).
func (w *world) asksRolls(t *testing.T) int {
	t.Helper()
	fines := 0
	entries := w.m.Entries()
	for i := range w.n {
		roll := w.m.Roll(i)
		if at, e := manor.Backed(entries, w.n, roll); at != 0 || e != api.OK {
			t.Fatalf("P10.8: Backed of %v: %d, %d", roll, at, e)
		}
		charged := map[string]bool{}
		for _, p := range roll {
			if p.Kind != api.PostFine && p.Kind != api.PostFee {
				continue
			}
			name := fmt.Sprint(p.Kind, " ", p.Case)
			if charged[name] || p.Reeve != p.Case%w.n {
				t.Fatalf("P10.8: %v charges a case twice, or away from home: %v", p, roll)
			}
			charged[name] = true
			if p.Kind == api.PostFine {
				fines++
			}
		}
		sum := 0
		for account := range 201 {
			balance, e := pound.Balance(w.n, roll, account)
			mustOK(t, "Balance", e)
			sum += balance
		}
		if sum != 0 {
			t.Fatalf("P10.8: the balances of %v add up to %d", roll, sum)
		}
	}
	return fines
}

// tellAll lets each reeve send to each other one, and all messages be carried until there are none.
func (w *world) tellAll(t *testing.T) {
	t.Helper()
	for i := range w.n {
		for j := range w.n {
			if i != j {
				mustOK(t, "Send", w.m.Send(i, j))
			}
		}
	}
	for more := true; more; {
		more = false
		for i := range w.n {
			for j := range w.n {
				for w.m.Carry(i, j, 0) != api.ErrNone {
					more = true
				}
			}
		}
	}
}

// P10.9 (T9, one roll): when all is told, and settled, and told again, the rolls are the same.
func (w *world) asksOneRoll(t *testing.T) int {
	t.Helper()
	for i := range w.n {
		mustOK(t, "Crash", w.m.Crash(i, nil))
		for j := range w.n {
			for w.m.Lose(i, j, 0) == api.OK {
			}
		}
	}
	for range 2 {
		w.tellAll(t)
		for i := range w.n {
			e := api.OK
			for e == api.OK {
				_, e = w.m.Settle(i)
			}
			if e != api.ErrNone {
				t.Fatalf("Settle: %d", e)
			}
		}
	}
	w.tellAll(t)
	roll := w.m.Roll(0)
	for i := range w.n {
		if !slices.Equal(w.m.Roll(i), roll) {
			t.Fatalf("P10.9: the reeve %d has %v, the reeve 0 %v", i, w.m.Roll(i), roll)
		}
	}
	if n, e := pound.Balance(w.n, roll, api.AccTransit); n != 0 || e != api.OK {
		t.Fatalf("P10.9: transit has %d: %v", n, roll)
	}
	return len(roll)
}

// P10.7 to P10.10 in worlds with messages that are lost, late and repeated, and disks that stop and crash.
func TestWorlds(t *testing.T) {
	r := random(44)
	holds, fines, postings, takes := 0, 0, 0, 0
	for range 40 {
		w := newWorld(t, r)
		for i := range 500 {
			w.act(t)
			holds += w.asksOneHolder(t)
			if i%100 == 99 {
				fines += w.asksRolls(t)
				if x := w.m.Audit(); !x.Ok {
					t.Fatalf("Audit: %+v", x)
				}
			}
		}
		postings += w.asksOneRoll(t)
		for _, p := range w.m.Roll(0) {
			if p.Kind == api.PostTake {
				takes++
			}
		}
		w.asksRolls(t)
	}
	if holds < 100 || fines < 100 || postings < 200 || takes < 20 {
		t.Errorf("holds %d, fines %d, postings %d, takes %d", holds, fines, postings, takes)
	}
}

// P10.10 (crashes): of two manors with three reeves in which the same happens, but that in the one reeves whose power lasts crash now and then, all answers are the same.
func TestCrashesUnseen(t *testing.T) {
	r := random(45)
	crashes := 0
	for range 30 {
		var twins [2]*manor.Manor
		for i := range twins {
			twins[i] = newManor(t, 3)
			for _, text := range begin() {
				mustOK(t, text, twins[i].Write(text))
			}
		}
		for range 300 {
			if r.IntN(5) == 0 {
				mustOK(t, "Crash", twins[0].Crash(r.IntN(3), []int{r.IntN(65)}))
				crashes++
			}
			c := someCommand(r, 3)
			if c.name == "stop" || c.name == "crash" {
				continue
			}
			if x, y := c.of(twins[0]), c.of(twins[1]); x != y {
				t.Fatalf("%+v: %v, without crashes %v", c, x, y)
			}
			if x, y := rollsOf(twins[0], 3), rollsOf(twins[1], 3); x != y {
				t.Fatalf("behind %+v: %s, without crashes %s", c, x, y)
			}
		}
		if stateOf(twins[0]) != stateOf(twins[1]) {
			t.Fatal("the states of the twins differ")
		}
	}
	if crashes < 500 {
		t.Errorf("only %d crashes", crashes)
	}
}
