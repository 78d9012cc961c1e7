package manor_test

import (
	"fmt"
	"math/rand/v2"
	"slices"
	"strings"
	"testing"

	"couchant/api"
	"couchant/manor"
	"couchant/rule"
)

// The examples of the chapter: texts, one after the other, with their answers and the entries that they write.
func TestChapterPapers(t *testing.T) {
	m := newManor(t, 3)
	for _, x := range []struct {
		text string
		e    api.Errno
		body string
	}{
		{"table equal sheep 0 1 4", api.OK, "1 0 equal sheep 0 1 4"},
		{"deed 0 enter 7 5040", api.OK, "1 0 0 enter 7 5040"},
		{"count stay 7 sheep high 1 3 10 2", api.OK, "1 0 stay 7 sheep high 1 10 12 by 3 10 2"},
		{"recount 0 3 100 95", api.OK, "1 0 0 3 100 95"},
		{"count stay 7 sheep low 1 3 19 0", api.OK, "2 0 stay 7 sheep low 1 19 20 by 3 19 0"},
		{"bound 7 sheep 1", api.OK, "bound 7 sheep 1 29 32 lower 1 2 upper 1 2"},
		{"step complain 7 1 over", api.OK, "1 0 complain 7 1 over"},
		{"judge 1", api.ErrState, ""},
		{"step summon 1", api.OK, "2 0 summon 1"},
		{"judge 1", api.ErrEarly, ""},
		{"day 21", api.OK, ""},
		{"judge 1", api.OK, "3 21 judge 1 sure 75"},
		{"step reopen 1", api.ErrSame, ""},
		{"report void 2", api.OK, "3 21 void 2"},
		{"step reopen 1", api.OK, "4 21 reopen 1"},
		{"judge 1", api.OK, "5 21 judge 1 sure 18"},
		{"step judge 1 sure 18", api.ErrState, ""},
		{"day 3", api.ErrTime, ""},
		{"nonsense", api.ErrForm, ""},
	} {
		before := m.Entries()
		if e := m.Write(x.text); e != x.e {
			t.Errorf("%q: error %d, want %d", x.text, e, x.e)
		}
		written := m.Entries()[len(before):]
		if x.body == "" && len(written) > 0 || x.body != "" && !slices.Equal(bodies(written), []string{x.body}) {
			t.Errorf("%q: %q", x.text, bodies(written))
		}
	}
	if x := m.Audit(); x != (api.Finding{Ok: true}) {
		t.Errorf("Audit: %v", x)
	}
	if m.Today() != 21 {
		t.Errorf("Today: %d", m.Today())
	}
}

// A text without one of the forms, the order of the errors, and what is taken at the edges.
func TestPaperForms(t *testing.T) {
	begin := []any{"table equal sheep 0 1 4", api.OK, "deed 0 enter 7 5040", api.OK, "day 5", api.OK}
	for _, x := range []struct {
		text string
		e    api.Errno
	}{
		{"", api.ErrForm}, {" ", api.ErrForm}, {"day", api.ErrForm}, {"day ", api.ErrForm}, {"day 5 ", api.ErrForm}, {" day 5", api.ErrForm}, {"day  5", api.ErrForm},
		{"day 05", api.ErrForm}, {"day -5", api.ErrForm}, {"day +5", api.ErrForm}, {"day 5\n", api.ErrForm}, {"day x", api.ErrForm}, {"Day 5", api.ErrForm},
		{"day 1000000000", api.ErrForm}, {"day 999999999", api.ErrArg}, {"day 100001", api.ErrArg}, {"day 100000", api.OK}, {"day 4", api.ErrTime}, {"day 5", api.OK},
		{"table", api.ErrForm}, {"table ", api.ErrForm}, {"table equal sheep 0 1 4", api.OK}, {"table equal sheep 0 1 4 ", api.ErrForm}, {"table  equal sheep 0 1 4", api.ErrForm},
		{"table equal sheep 0 1 4\n", api.ErrForm}, {"table equal sheep 0 2 4", api.ErrForm}, {"table void 1", api.OK}, {"table void 2", api.ErrNone},
		{"deed 0 enter 7 5040", api.OK}, {"deed 0 enter 41 5040", api.ErrForm}, {"deed void 1", api.OK}, {"deed redeem 1", api.ErrForm}, {"deed 0 redeem 1", api.ErrState},
		{"recount 0 3 100 95", api.OK}, {"recount 0 3 100", api.ErrForm}, {"recount 0 3 100 95 1", api.ErrForm}, {"recount 0 3 100 x", api.ErrForm}, {"recount 0 41 100 95", api.ErrForm}, {"recount 0 3 0 0", api.ErrForm},
		{"recount", api.ErrForm}, {"recount ", api.ErrForm},
		{"report stay 7 sheep high 1 3 4", api.OK}, {"report stay 7 sheep moor 1 3 4", api.ErrForm}, {"report void 1", api.ErrNone}, {"report", api.ErrForm},
		{"count stay 7 sheep high 1 3 10 2", api.OK}, {"count stay 7 sheep high 1 3 10", api.ErrForm}, {"count stay 7 sheep high 1 3 10 2 1", api.ErrForm},
		{"count stay x sheep high 1 3 10 2", api.ErrForm}, {"count stay 7 sheep high x 3 10 2", api.ErrForm}, {"count stay 7 sheep high 1 x 10 2", api.ErrForm},
		{"count stay 7 sheep high x 41 10 2", api.ErrForm}, {"count stay x sheep high 1 41 10 2", api.ErrForm}, {"count stay 7 sheep high 1 3 x 2", api.ErrForm}, {"count stay 7 sheep high 1 3 10 x", api.ErrForm}, {"count stay 7 sh\neep high 1 99 10 2", api.ErrForm},
		{"count stay 7  high 1 99 10 2", api.ErrForm}, {"count stay 7 sheep moor 1 3 10 2", api.ErrForm}, {"count stay 7 sheep moor 1 99 10 2", api.ErrArg},
		{"count void 7 sheep high 1 3 10 2", api.ErrForm}, {"count void 7 sheep high 1 41 10 2", api.ErrArg}, {"count stay 7 sheep high 1 3 1001 2", api.ErrLimit},
		{"count stay 7 sheep moor 1 3 1001 2", api.ErrLimit}, {"count stay 7 sheep high 1 3 1000 2", api.OK}, {"count stay 7 sheep high 1 3 100001 0", api.ErrArg}, {"count stay 7 sheep high 1 3 0 10000", api.OK},
		{"count stay 7 sheep high 1 3 0 10001", api.ErrArg}, {"count back 7 sheep lane 1 3 10 2", api.OK}, {"count pass 7 sheep high 1 3 10 2", api.ErrForm},
		{"step complain 7 1 over", api.OK}, {"step complain 7 1 none", api.ErrNone}, {"step complain 7 3 over", api.ErrNone}, {"step complain 7 25 over", api.ErrForm}, {"step", api.ErrForm},
		{"step summon 1", api.ErrForm}, {"step judge 1 none", api.ErrForm},
		{"judge 1", api.ErrNone}, {"judge 0", api.ErrNone}, {"judge", api.ErrForm}, {"judge x", api.ErrForm}, {"judge 1 ", api.ErrForm}, {"judge 01", api.ErrForm}, {"judge 1 2", api.ErrForm},
		{"bound 7 sheep 1", api.OK}, {"bound 7 sheep", api.ErrForm}, {"bound 7 sheep 1 2", api.ErrForm}, {"bound x sheep 1", api.ErrForm}, {"bound 7 sheep x", api.ErrForm}, {"bound 7  1", api.ErrForm},
		{"bound 7 she\nep 1", api.ErrForm}, {"bound 7 Sheep 1", api.ErrArg}, {"bound 41 sheep 1", api.ErrArg}, {"bound 7 sheep 3", api.ErrArg}, {"bound 7 sheep 2", api.OK}, {"bound", api.ErrForm},
		{"note", api.ErrForm}, {"note ", api.OK}, {"note  \x00\xff ", api.OK}, {"note a\nb", api.ErrArg}, {"note " + strings.Repeat("x", 1900), api.OK}, {"note " + strings.Repeat("x", 1901), api.ErrArg},
		{"note " + strings.Repeat("x", 1996), api.ErrLimit}, {"note " + strings.Repeat("x", 1995), api.ErrArg}, {"notes x", api.ErrForm}, {"house 1 1", api.ErrForm}, {"fell 2 50", api.ErrForm},
	} {
		m := newManor(t, 3)
		answersTo(t, m, begin...)
		before := stateOf(m)
		answersTo(t, m, x.text, x.e)
		if x.e != api.OK && stateOf(m) != before {
			t.Errorf("%q has an error, and changes something", x.text)
		}
		_, answers, e := manor.Process(setupS(), []string{begin[0].(string), begin[2].(string), begin[4].(string), x.text})
		switch {
		case len(x.text) > 2000:
			if e != api.ErrLimit || len(answers) > 0 {
				t.Errorf("Process of %d bytes: %d, %v", len(x.text), e, answers)
			}
		case e != api.OK || !slices.Equal(answers, []api.Errno{0, 0, 0, x.e}):
			t.Errorf("Process of %q: %d, %v", x.text, e, answers)
		}
	}
}

// What a judge paper needs, in the order of its errors.
func TestJudgePaper(t *testing.T) {
	m := newManor(t, 3)
	answersTo(t, m, "table equal sheep 0 1 4", api.OK, "deed 0 enter 7 5040", api.OK, "step complain 7 1 over", api.OK, "step complain 8 2 over", api.OK,
		"judge 3", api.ErrNone, "judge 1", api.ErrState, "step summon 1", api.OK, "judge 3", api.ErrNone, "judge 1", api.ErrEarly, "step judge 1 open", api.ErrEarly, "day 20", api.OK, "judge 1", api.ErrEarly,
		"day 21", api.OK, "report stay 7 sheep high 1 2 5", api.OK, "report stay 7 sheep low 1 0 0", api.OK, "report stay 7 sheep high 1 6 6", api.OK, "judge 1", api.ErrDoubt, "step judge 1 open", api.ErrDoubt,
		"report void 3", api.OK, "step judge 1 none", api.ErrProof, "step judge 1 sure 0", api.ErrProof, "judge 1", api.OK, "judge 1", api.OK, "step reopen 1", api.ErrState, "step judge 1 open", api.OK,
		"report void 2", api.OK, "report stay 7 sheep low 1 10 10", api.OK, "step judge 1 sure 23", api.ErrProof, "judge 1", api.OK, "judge 1", api.ErrState, "step judge 1 sure 24", api.ErrState)
	var l []string
	for _, x := range m.Books().Steps[3:] {
		line, _ := manor.WriteStep(x)
		l = append(l, line)
	}
	if !slices.Equal(l, []string{"4 21 judge 1 open", "5 21 judge 1 open", "6 21 judge 1 open", "7 21 judge 1 sure 24"}) {
		t.Errorf("%q", l)
	}
}

// 400 steps are the most, and 600 entries.
func TestManyPapers(t *testing.T) {
	m := newManor(t, 3)
	answersTo(t, m, "table equal sheep 0 1 4", api.OK, "step complain 7 1 over", api.OK, "step summon 1", api.OK, "step complain 7 1 over", api.OK, "day 21", api.OK)
	for range 397 {
		answersTo(t, m, "judge 1", api.OK)
	}
	answersTo(t, m, "step complain 7 1 over", api.ErrForm, "judge 1", api.ErrArg, "judge 2", api.ErrNone, "judge 3", api.ErrArg, "judge 400", api.ErrNone)
	for range 600 - len(m.Entries()) {
		answersTo(t, m, "note more", api.OK)
	}
	answersTo(t, m, "note more", api.ErrLimit, "note \n", api.ErrArg, "judge 1", api.ErrArg, "table equal sheep 0 1 4", api.ErrLimit, "table equal", api.ErrForm, "bound 7 sheep 1", api.ErrLimit,
		"bound 7 sheep 3", api.ErrArg, "count stay 7 sheep high 1 3 10 2", api.ErrLimit, "count stay 7 sheep moor 1 3 10 2", api.ErrForm, "recount 0 3 100 95", api.ErrLimit, "nonsense", api.ErrForm, "day 3", api.ErrTime, "day 22", api.OK)
	if l := m.Entries(); len(l) != 600 || m.Today() != 22 || !manor.Check(l).Ok {
		t.Errorf("%d entries, day %d", len(l), m.Today())
	}
}

// The limits of the lists of the books are those of their layers.
func TestManyRecords(t *testing.T) {
	m := newManor(t, 3)
	for range 200 {
		answersTo(t, m, "table equal sheep 0 1 4", api.OK)
	}
	answersTo(t, m, "table equal sheep 0 1 4", api.ErrLimit)
	for range 300 {
		answersTo(t, m, "count stay 7 sheep high 1 3 10 2", api.OK)
	}
	answersTo(t, m, "count stay 7 sheep high 1 3 10 2", api.ErrLimit, "report stay 7 sheep high 1 10 12", api.ErrLimit, "count stay 7 sheep moor 1 3 10 2", api.ErrForm)
}

// wideRules returns the sources of rules that Print, with blanks and brackets, writes with 20000 bytes, and with one more.
func wideRules(t *testing.T) (string, string) {
	t.Helper()
	var l []string
	length := func(more ...string) int {
		w, fault := rule.Parse(strings.Join(append(slices.Clone(l), more...), "\n"))
		mustOK(t, "Parse", fault.Err)
		return len(rule.Print(w))
	}
	fine := func(name string, ands, ones int) string {
		return fmt.Sprint("fine ", name, " when cow>0", strings.Repeat(" and cow>0", ands), " pays 1", strings.Repeat("+1", ones))
	}
	for _, ands := range []int{40, 0} {
		for len(l) < 19 && length(fine("last", ands, 98)) < 20000 {
			l = append(l, fine(fmt.Sprint("a", len(l)), ands, 98))
		}
	}
	// The first sum adds 4 bytes, each further one 6, and the name has what is left.
	rest := 20000 - length(fine("b", 0, 1))
	name := "b" + strings.Repeat("x", rest%6)
	return strings.Join(append(slices.Clone(l), fine(name, 0, 1+rest/6)), "\n"), strings.Join(append(l, fine(name+"x", 0, 1+rest/6)), "\n")
}

// K8: the errors of the whole, in their order.
func TestProcessErrors(t *testing.T) {
	short, tooLong := wideRules(t)
	if w, fault := rule.Parse(short); fault.Err != api.OK || len(rule.Print(w)) != 20000 {
		t.Fatalf("rules of %d bytes, error %d", len(rule.Print(w)), fault.Err)
	}
	for _, x := range []struct {
		fell, rules string
		house       api.Rate
		texts       []string
		e           api.Errno
	}{
		{"", "x", api.Rate{Misses: 501}, nil, api.ErrNone}, {"x", "x", api.Rate{}, nil, api.ErrForm}, {"fell 2 50\nheaf high\ngate a high low 1\n", "x", api.Rate{}, nil, api.ErrPlace},
		{strings.Repeat("\n", 20001), "x", api.Rate{}, nil, api.ErrLimit}, {fellS, "x", api.Rate{Misses: 501}, nil, api.ErrForm}, {fellS, "fine x when cow pays 1", api.Rate{}, nil, api.ErrType},
		{fellS, strings.Repeat("\n", 20001), api.Rate{Misses: 501}, nil, api.ErrLimit}, {fellS, rulesS, api.Rate{Misses: 501}, make([]string, 1501), api.ErrArg}, {fellS, rulesS, api.Rate{Doubles: -1}, nil, api.ErrArg},
		{fellS, rulesS, api.Rate{Misses: 500, Doubles: 500}, nil, api.OK}, {fellS, rulesS, api.Rate{}, make([]string, 1501), api.ErrLimit}, {fellS, rulesS, api.Rate{}, make([]string, 1500), api.OK},
		{fellS, rulesS, api.Rate{}, []string{"", strings.Repeat("x", 2001)}, api.ErrLimit}, {fellS, rulesS, api.Rate{}, []string{strings.Repeat("x", 2000)}, api.OK}, {fellS, "", api.Rate{}, nil, api.OK}, {fellS, short, api.Rate{}, nil, api.OK}, {fellS, tooLong, api.Rate{}, nil, api.ErrLimit}, {fellS, tooLong, api.Rate{Misses: 501}, nil, api.ErrLimit}, {"x", tooLong, api.Rate{}, nil, api.ErrForm},
		{"# a fell\n" + fellS, "# rules\n" + rulesS, api.Rate{}, nil, api.OK},
	} {
		l, answers, e := manor.Process(api.Setup{Fell: x.fell, Rules: x.rules, House: x.house}, x.texts)
		if e != x.e || e != api.OK && len(l)+len(answers) > 0 || e == api.OK && (len(l) != 3 || len(answers) != len(x.texts) || !manor.Check(l).Ok) {
			t.Errorf("Process(%.40q, %.40q, %v, %d texts): %q, %v, error %d, want %d", x.fell, x.rules, x.house, len(x.texts), bodies(l), answers, e, x.e)
		}
		s := api.Setup{Reeves: 3, Sectors: 1000, Fell: x.fell, Rules: x.rules, House: x.house}
		if m, f := manor.New(s); len(x.texts) == 0 && (f != e || (m == nil) != (f != api.OK)) {
			t.Errorf("New(%.40q, %.40q, %v): error %d, want %d", x.fell, x.rules, x.house, f, e)
		}
	}
}

// oddPapers returns texts like those of a season, of which some are changed.
func oddPapers(t *testing.T, r *rand.Rand, s api.Setup, n int) []string {
	l := papers(t, r, s, n)
	for i := range l {
		if r.IntN(4) == 0 {
			l[i] = otherText(r, l[i])
		}
		if len(l[i]) > 2000 {
			l[i] = l[i][:2000]
		}
	}
	return l
}

// K8: Process against the model, and New with Write.
func TestProcessAsModel(t *testing.T) {
	r := random(2)
	answered := map[string]int{}
	for range 240 {
		s := setups(r)
		texts := oddPapers(t, r, s, 10+r.IntN(60))
		l, answers, e := manor.Process(s, texts)
		mustOK(t, "Process", e)
		want, errors := modelProcess(s, texts)
		if !slices.Equal(l, want) || !slices.Equal(answers, errors) {
			t.Fatalf("Process(%q): %q, %v, want %q, %v", texts, bodies(l), answers, bodies(want), errors)
		}
		m, e := manor.New(s)
		mustOK(t, "New", e)
		for i, text := range texts {
			word, _, _ := strings.Cut(text, " ")
			answered[fmt.Sprint(word, " ", int(answers[i]))]++
			if e := m.Write(text); e != answers[i] {
				t.Fatalf("Write(%q) in %q: error %d, want %d", text, texts, e, answers[i])
			}
		}
		if !slices.Equal(m.Entries(), l) {
			t.Fatalf("Entries of %q: %q, want %q", texts, bodies(m.Entries()), bodies(l))
		}
	}
	for _, key := range []string{
		"day 0", "day 7", "table 0", "table 5", "table 4", "deed 0", "deed 8", "deed 4", "recount 0", "recount 4", "report 0", "report 4", "report 5", "report 6", "count 0", "count 4", "count 1",
		"step 0", "step 4", "step 5", "step 8", "step 70", "step 101", "step 102", "step 103", "step 104", "judge 0", "judge 5", "judge 8", "judge 70", "judge 101", "bound 0", "bound 70", "note 0", "note 1", "nonsense 4",
	} {
		if answered[key] == 0 {
			t.Errorf("only %d texts: %s", answered[key], key)
		}
	}
}
