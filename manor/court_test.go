package manor_test

import (
	"fmt"
	"math/rand/v2"
	"slices"
	"testing"

	"couchant/api"
	"couchant/manor"
)

// K4: lines of steps.
func TestStepTexts(t *testing.T) {
	for line, x := range map[string]api.Step{
		"1 0 complain 7 1 over":                              {Id: 1, Kind: api.StepComplain, Owner: 7, Tick: 1, Fine: "over"},
		"400 100000 complain 40 24 zbcdefghijklmnopqrstu-90": {Id: 400, Day: 100000, Kind: api.StepComplain, Owner: 40, Tick: 24, Fine: "zbcdefghijklmnopqrstu-90"},
		"1 0 complain 1 0 a":                                 {Id: 1, Kind: api.StepComplain, Owner: 1, Fine: "a"},
		"2 3 summon 1":                                       {Id: 2, Day: 3, Kind: api.StepSummon, Of: 1},
		"3 3 reply 2":                                        {Id: 3, Day: 3, Kind: api.StepReply, Of: 2},
		"400 3 view 399":                                     {Id: 400, Day: 3, Kind: api.StepView, Of: 399},
		"3 3 judge 2 sure 0":                                 {Id: 3, Day: 3, Kind: api.StepJudge, Of: 2, Verdict: api.VerdictSure},
		"3 3 judge 2 sure 1000000":                           {Id: 3, Day: 3, Kind: api.StepJudge, Of: 2, Verdict: api.VerdictSure, Amount: 1000000},
		"3 3 judge 2 none":                                   {Id: 3, Day: 3, Kind: api.StepJudge, Of: 2, Verdict: api.VerdictNone},
		"3 3 judge 2 open":                                   {Id: 3, Day: 3, Kind: api.StepJudge, Of: 2, Verdict: api.VerdictOpen},
		"3 3 reopen 1":                                       {Id: 3, Day: 3, Kind: api.StepReopen, Of: 1},
	} {
		if s, e := manor.WriteStep(x); s != line || e != api.OK {
			t.Errorf("WriteStep(%v): %q, %d", x, s, e)
		}
		if y, e := manor.ReadStep(line); y != x || e != api.OK {
			t.Errorf("ReadStep(%q): %v, %d", line, y, e)
		}
	}
	for _, line := range []string{
		"", " ", "1", "1 0", "1 0 complain", "1 0 complain 7 1", "1 0 complain 7 1 over x", "1 0 complain 7 1 Over", "1 0 complain 7 1 9over", "1 0 complain 7 1 overé", "1 0 complain 7 1 ov\u0161r", "1 0 complain 7 1 zbcdefghijklmnopqrstu-901",
		"1 0 complain 0 1 over", "1 0 complain 41 1 over", "1 0 complain 7 25 over", "1 0 complain 7 -1 over", "1 0 complain x 1 over", "1 0 complain 7 x over", "0 0 complain 7 1 over", "401 0 complain 7 1 over", "1 100001 complain 7 1 over",
		"1 -1 complain 7 1 over", "01 0 complain 7 1 over", "1 00 complain 7 1 over", "1 0  complain 7 1 over", " 1 0 complain 7 1 over", "1 0 complain 7 1 over ", "1 0 complain 7 1 over\n", "1 0 complain 7 1 ", "x 0 complain 7 1 over", "1 x complain 7 1 over",
		"1 0 accuse 7 1 over", "1 0  7 1 over", "2 3 summon", "2 3 summon 0", "2 3 summon 2", "2 3 summon 3", "2 3 summon x", "2 3 summon 1 2", "1 3 summon 1", "1 3 summon 0", "2 3 reply 2", "2 3 view 2", "2 3 reopen 2", "2 3 reopen 01",
		"3 3 judge 2", "3 3 judge 2 ", "3 3 judge 2 sure", "3 3 judge 2 sure x", "3 3 judge 2 sure 1000001", "3 3 judge 2 sure -1", "3 3 judge 2 sure 01", "3 3 judge 2 none 0", "3 3 judge 2 open 0", "3 3 judge 2 open 1", "3 3 judge 2 maybe", "3 3 judge 3 none",
		"3 3 judge x none", "3 3 judge 2 sure 1 2", "3 3 judge 2 sure 10000000000", "3 3 judge 2 Sure 1",
	} {
		if x, e := manor.ReadStep(line); x != (api.Step{}) || e != api.ErrForm {
			t.Errorf("ReadStep(%q): %v, %d", line, x, e)
		}
	}
}

// stepFields are the fields of a step that are ints.
func stepFields(x *api.Step) []*int {
	return []*int{&x.Id, &x.Day, &x.Of, &x.Owner, &x.Tick, &x.Amount}
}

// someStep returns a step that is right, or differs from one in some fields.
func someStep(r *rand.Rand) api.Step {
	x := api.Step{Id: 2 + r.IntN(399), Day: r.IntN(100001), Kind: uint8(1 + r.IntN(6))}
	if x.Kind == api.StepComplain {
		x.Owner, x.Tick, x.Fine = 1+r.IntN(40), r.IntN(25), pick(r, "over", "a", "x-9")
	} else {
		x.Of = 1 + r.IntN(x.Id-1)
	}
	if x.Kind == api.StepJudge {
		x.Verdict = uint8(1 + r.IntN(3))
		if x.Verdict == api.VerdictSure {
			x.Amount = r.IntN(1000001)
		}
	}
	for range r.IntN(3) {
		switch r.IntN(6) {
		case 0:
			x.Kind = uint8(r.IntN(9))
		case 1:
			x.Verdict = uint8(r.IntN(5))
		case 2:
			x.Fine = pick(r, "", "over", "Over", "o ver")
		default:
			*pick(r, stepFields(&x)...) = pick(r, 0, 1, -1, 24, 25, 40, 41, 400, 401, 100000, 100001, 1000000, 1000001, r.IntN(500))
		}
	}
	return x
}

// K4 and P10.11 against the model.
func TestStepTextsAsModel(t *testing.T) {
	r := random(5)
	right := map[uint8]int{}
	wrong := 0
	for range 40000 {
		x := someStep(r)
		s, e := manor.WriteStep(x)
		line, is := modelStepForm(x)
		if !is && (s != "" || e != api.ErrArg) || is && (s != line || e != api.OK) {
			t.Fatalf("WriteStep(%+v): %q, %d, want %q", x, s, e, line)
		}
		if !is {
			wrong++
			continue
		}
		right[x.Kind]++
		if y, e := manor.ReadStep(line); y != x || e != api.OK {
			t.Fatalf("ReadStep(%q): %+v, %d", line, y, e)
		}
		other := otherText(r, line)
		y, e := manor.ReadStep(other)
		want, f := modelReadStep(other)
		if y != want || e != f {
			t.Fatalf("ReadStep(%q): %+v, %d, want %+v, %d", other, y, e, want, f)
		}
	}
	if len(right) != 6 || wrong < 5000 {
		t.Errorf("right %v, wrong %d", right, wrong)
	}
}

// readSteps returns steps with lines.
func readSteps(t testing.TB, lines ...string) []api.Step {
	t.Helper()
	var l []api.Step
	for _, line := range lines {
		x, e := manor.ReadStep(line)
		mustOK(t, line, e)
		l = append(l, x)
	}
	return l
}

// What 20 sheep of the owner 7, who has one stint, make due: 12 * (5 - 1).
func sheepBooks(t testing.TB) api.Books {
	t.Helper()
	return booksOf(t, "table equal sheep 0 1 4", "deed 0 enter 7 5040", "count stay 7 sheep high 1 3 20 0", "report stay 7 sheep low 1 0 0")
}

// K5, K6: which steps each state lets be taken, and which state they make.
func TestStates(t *testing.T) {
	paths := map[uint8][]string{
		api.CaseNone:   {"1 0 complain 8 1 over"},
		api.CaseOpen:   {"1 0 complain 8 1 over", "2 0 complain 7 1 over"},
		api.CaseCalled: {"1 0 complain 8 1 over", "2 0 complain 7 1 over", "3 0 summon 2"},
		api.CaseHeard:  {"1 0 complain 8 1 over", "2 0 complain 7 1 over", "3 0 summon 2", "4 0 reply 2"},
		api.CaseViewed: {"1 0 complain 8 1 over", "2 0 complain 7 1 over", "3 0 summon 2", "4 0 reply 2", "5 0 view 2"},
		api.CaseFined:  {"1 0 complain 8 1 over", "2 0 complain 7 1 over", "3 0 summon 2", "4 0 reply 2", "5 0 view 2", "6 0 judge 2 sure 7"},
		api.CaseClear:  {"1 0 complain 8 1 over", "2 0 complain 7 1 over", "3 0 summon 2", "4 0 reply 2", "5 0 view 2", "6 0 judge 2 none"},
		api.CaseDoubt:  {"1 0 complain 8 1 over", "2 0 complain 7 1 over", "3 0 summon 2", "4 0 reply 2", "5 0 view 2", "6 0 judge 2 open"},
	}
	for state, lines := range paths {
		b := sheepBooks(t)
		b.Steps = readSteps(t, lines...)
		if got := manor.Case(b, 2); got != state {
			t.Errorf("Case behind %q: %d, want %d", lines, got, state)
		}
		for words, allowed := range map[string]map[uint8]api.Errno{
			"summon 2":        {api.CaseOpen: api.OK},
			"reply 2":         {api.CaseCalled: api.OK},
			"view 2":          {api.CaseHeard: api.OK},
			"judge 2 sure 48": {api.CaseViewed: api.OK, api.CaseDoubt: api.OK, api.CaseCalled: api.ErrEarly},
			"judge 2 sure 47": {api.CaseViewed: api.ErrProof, api.CaseDoubt: api.ErrProof, api.CaseCalled: api.ErrEarly},
			"judge 2 open":    {api.CaseViewed: api.ErrProof, api.CaseDoubt: api.ErrProof, api.CaseCalled: api.ErrEarly},
			"reopen 2":        {api.CaseFined: api.OK, api.CaseClear: api.OK},
		} {
			if state == api.CaseNone {
				continue
			}
			line := fmt.Sprint(len(lines)+1, " 0 ", words)
			want, is := allowed[state]
			if !is {
				want = api.ErrState
			}
			if e := manor.CheckStep(b, readSteps(t, line)[0]); e != want {
				t.Errorf("CheckStep of %q behind %q: %d, want %d", line, lines, e, want)
			}
		}
	}
	b := sheepBooks(t)
	b.Steps = readSteps(t, append(paths[api.CaseFined], "7 3 reopen 2")...)
	if manor.Case(b, 2) != api.CaseViewed || manor.Case(b, 1) != api.CaseOpen || manor.Case(b, 3) != api.CaseNone || manor.Case(b, 0) != api.CaseNone || manor.Case(b, -1) != api.CaseNone {
		t.Error("Case of several")
	}
	if l := manor.Cases(b); !slices.Equal(l, []int{1, 2}) || len(manor.Cases(api.Books{})) > 0 {
		t.Errorf("Cases: %v", l)
	}
	if x, is := manor.Judged(b, 2); !is || x != b.Steps[5] {
		t.Errorf("Judged: %v, %t", x, is)
	}
	b.Steps = append(b.Steps, readSteps(t, "8 4 judge 2 sure 48", "9 4 complain 9 1 over")...)
	if x, is := manor.Judged(b, 2); !is || x != b.Steps[7] {
		t.Errorf("Judged twice: %v, %t", x, is)
	}
	for _, id := range []int{0, 1, 3, 8, 9, 10, -1} {
		if x, is := manor.Judged(b, id); is || x != (api.Step{}) {
			t.Errorf("Judged(%d): %v, %t", id, x, is)
		}
	}
}

// K5: the errors of a step, and their order.
func TestStepErrors(t *testing.T) {
	b := sheepBooks(t)
	b.Steps = readSteps(t, "1 3 complain 7 1 over", "2 4 summon 1")
	for _, x := range []struct {
		line string
		e    api.Errno
	}{
		{"3 4 complain 7 1 over", api.OK}, {"3 4 complain 8 2 over", api.OK}, {"4 4 complain 7 1 over", api.ErrArg}, {"2 4 complain 7 1 over", api.ErrArg}, {"2 3 complain 7 1 over", api.ErrArg}, {"3 3 complain 7 1 none", api.ErrTime},
		{"3 4 complain 7 1 none", api.ErrNone}, {"3 4 complain 7 3 over", api.ErrNone}, {"3 3 summon 2", api.ErrTime}, {"3 4 summon 2", api.ErrNone}, {"3 4 judge 2 none", api.ErrNone}, {"3 4 reply 2", api.ErrNone}, {"3 4 view 2", api.ErrNone}, {"3 4 reopen 2", api.ErrNone},
		{"3 24 reply 1", api.OK}, {"3 25 reply 1", api.ErrLate}, {"3 4 reply 1", api.OK}, {"3 24 judge 1 sure 48", api.ErrEarly}, {"3 25 judge 1 sure 48", api.OK}, {"3 25 judge 1 sure 49", api.ErrProof}, {"3 24 judge 1 sure 49", api.ErrEarly},
		{"3 25 judge 1 none", api.ErrProof}, {"3 100000 judge 1 sure 48", api.OK}, {"3 25 view 1", api.ErrState}, {"3 25 summon 1", api.ErrState},
	} {
		if e := manor.CheckStep(b, readSteps(t, x.line)[0]); e != x.e {
			t.Errorf("CheckStep of %q: %d, want %d", x.line, e, x.e)
		}
	}
	if e := manor.CheckStep(b, api.Step{Id: 3, Day: 2, Kind: api.StepSummon}); e != api.ErrArg {
		t.Errorf("CheckStep of one that is not right: %d", e)
	}
	// Who replied in time is judged only when jurors have viewed the ground, however late it is.
	b.Steps = append(b.Steps, readSteps(t, "3 24 reply 1")...)
	if e := manor.CheckStep(b, readSteps(t, "4 99 judge 1 sure 48")[0]); e != api.ErrState {
		t.Errorf("CheckStep of a judgment without a view: %d", e)
	}
	// Behind a judgment that does not fit the books any more the case is judged anew.
	b.Steps = append(b.Steps, readSteps(t, "4 24 view 1", "5 30 judge 1 sure 48")...)
	again := readSteps(t, "6 31 reopen 1")[0]
	if e := manor.CheckStep(b, again); e != api.ErrSame {
		t.Errorf("CheckStep of reopen where nothing has changed: %d", e)
	}
	b.Deeds = append(b.Deeds, api.Deed{Id: 2, Known: 31, Day: 1, Kind: api.DeedEnter, To: 7, Parts: 5040})
	if e := manor.CheckStep(b, again); e != api.OK {
		t.Errorf("CheckStep of reopen behind a deed: %d", e)
	}
	again.Day = 30
	if e := manor.CheckStep(b, again); e != api.ErrSame {
		t.Errorf("CheckStep of reopen before the deed was known: %d", e)
	}
	b.Reports = append(b.Reports, api.Report{Id: 3, Known: 31, Kind: api.ReportStay, Owner: 7, Sort: "sheep", At: 0, Tick: 1, Low: 3, High: 3})
	again.Day = 31
	if e := manor.CheckStep(b, again); e != api.ErrDoubt {
		t.Errorf("CheckStep of reopen where reports contradict each other: %d", e)
	}
	// None and open judgments are the same again, too.
	for verdict, low := range map[string]int{"none": 0, "open": 3} {
		b := booksOf(t, "table equal sheep 0 1 4", "deed 0 enter 7 5040", fmt.Sprintf("report stay 7 sheep high 1 %d %d", low, 2*low), "report stay 7 sheep low 1 0 0")
		b.Steps = readSteps(t, "1 0 complain 7 1 over", "2 0 summon 1", "3 30 judge 1 "+verdict)
		want := map[string]api.Errno{"none": api.ErrSame, "open": api.ErrState}[verdict]
		if e := manor.CheckStep(b, readSteps(t, "4 30 reopen 1")[0]); e != want {
			t.Errorf("CheckStep of reopen behind %s: %d", verdict, e)
		}
	}
}

// K6: what is due, by what is known on a day.
func TestDue(t *testing.T) {
	b := booksOf(t, "table equal sheep 0 1 4", "table equal cow 1 1 1", "deed 0 enter 7 5040", "step complain 7 1 over", "step complain 7 0 over", "report stay 7 sheep high 1 10 12", "report stay 7 sheep low 1 0 0", "report stay 7 cow high 1 2 2", "report stay 7 cow low 1 0 0",
		"report stay 7 sheep high 0 30 30", "report stay 7 sheep low 0 0 0", "day 4", "report stay 7 sheep high 1 11 12", "day 5", "deed 1 enter 7 2520", "day 6", "table equal sheep 1 1 2", "day 7", "report void 1", "report void 7", "day 8", "report stay 7 sheep low 1 5 5")
	frac := func(num, den int) api.Frac { return api.Frac{Num: num, Den: den} }
	for _, x := range []struct {
		id, day int
		v       api.Verdict
		amount  int
		e       api.Errno
	}{
		// 12 * (10/4 + 2 - 1) to 12 * (12/4 + 2 - 1).
		{1, 0, api.Verdict{Kind: api.VerdictSure, Least: frac(42, 1), Greatest: frac(48, 1)}, 42, api.OK},
		{1, 3, api.Verdict{Kind: api.VerdictSure, Least: frac(42, 1), Greatest: frac(48, 1)}, 42, api.OK},
		// At the tick 0 cows have no equivalent.
		{2, 0, api.Verdict{Kind: api.VerdictSure, Least: frac(78, 1), Greatest: frac(78, 1)}, 78, api.OK},
		{1, 4, api.Verdict{Kind: api.VerdictSure, Least: frac(45, 1), Greatest: frac(48, 1)}, 45, api.OK},
		{1, 5, api.Verdict{Kind: api.VerdictSure, Least: frac(39, 1), Greatest: frac(42, 1)}, 39, api.OK},
		{2, 5, api.Verdict{Kind: api.VerdictSure, Least: frac(78, 1), Greatest: frac(78, 1)}, 78, api.OK},
		{1, 6, api.Verdict{Kind: api.VerdictSure, Least: frac(72, 1), Greatest: frac(78, 1)}, 72, api.OK},
		{1, 100000, api.Verdict{}, 0, api.ErrDoubt},
		{3, 0, api.Verdict{}, 0, api.ErrNone}, {0, 0, api.Verdict{}, 0, api.ErrNone}, {-1, 0, api.Verdict{}, 0, api.ErrNone},
	} {
		v, amount, e := manor.Due(b, x.id, x.day)
		if v != x.v || amount != x.amount || e != x.e {
			t.Errorf("Due(%d, %d): %v, %d, %d, want %v", x.id, x.day, v, amount, e, x)
		}
	}
	// On the day 7 nothing is told of the sheep at high, so there are from 0 to 80 of them (30 may stay, 50 be born, 50 come).
	v, amount, e := manor.Due(b, 1, 7)
	if v.Kind != api.VerdictSure || v.Least != frac(6, 1) || amount != 6 || e != api.OK {
		t.Errorf("Due on the day 7: %v, %d, %d", v, amount, e)
	}
	_, _, e = manor.Due(booksOf(t, "step complain 7 1 over"), 1, 0)
	mustOK(t, "Due without a table", e)
}

// K6: Amounts are rounded down, and at most 1000000; open ones and such as are not due are 0.
func TestAmounts(t *testing.T) {
	for _, x := range []struct {
		pays    string
		reports string
		verdict uint8
		amount  int
	}{
		{"5/2", "10 10", api.VerdictSure, 2}, {"1/2", "10 10", api.VerdictSure, 0}, {"1000000", "10 10", api.VerdictSure, 1000000}, {"2000001/2", "10 10", api.VerdictSure, 1000000}, {"100000 * sheep", "10 10", api.VerdictSure, 1000000},
		{"100000 * sheep", "9 10", api.VerdictSure, 900000}, {"7", "0 10", api.VerdictOpen, 0}, {"7", "0 4", api.VerdictNone, 0}, {"0", "10 10", api.VerdictSure, 0}, {"999999999", "10 10", api.VerdictSure, 1000000},
	} {
		s := setupS()
		s.Rules = "fine other when 1 < 2 pays 77\nfine over when sheep > 5 pays " + x.pays + "\n"
		m, e := manor.New(s)
		mustOK(t, "New", e)
		answersTo(t, m, "table equal sheep 0 1 4", api.OK, "report stay 7 sheep high 1 "+x.reports, api.OK, "report stay 7 sheep low 1 0 0", api.OK, "step complain 7 1 over", api.OK, "step summon 1", api.OK, "day 21", api.OK, "judge 1", api.OK)
		b := m.Books()
		v, amount, e := manor.Due(b, 1, 21)
		judgment, is := manor.Judged(b, 1)
		if v.Kind != x.verdict || amount != x.amount || e != api.OK || !is || judgment.Verdict != x.verdict || judgment.Amount != x.amount {
			t.Errorf("%v: %v, %d, %d, %v", x, v, amount, e, judgment)
		}
	}
}

// K6: the errors of what is due, the first one in its order.
func TestDueErrors(t *testing.T) {
	table := func(n int) []string {
		var l []string
		for i := range n {
			l = append(l, fmt.Sprintf("table equal sort-%c 0 1 4", 'a'+i))
		}
		return l
	}
	complain := func(l []string, more ...string) api.Books {
		return booksOf(t, append(append(l, "step complain 7 1 over"), more...)...)
	}
	doubt := []string{"report stay 7 sort-c high 1 1 1", "report stay 7 sort-c high 1 2 2"}
	for _, x := range []struct {
		b    api.Books
		want api.Errno
	}{
		{complain(table(12)), api.OK}, {complain(table(13)), api.ErrArg}, {complain(table(12), doubt...), api.ErrDoubt}, {complain(table(13), doubt...), api.ErrDoubt}, {complain(table(2), doubt...), api.OK}, {complain(nil, doubt...), api.OK},
		{complain([]string{"table equal sheep 0 999999 1000", "table equal cow 0 999998 999999", "table equal ox 0 1 999983", "deed 0 enter 7 1"}, "report stay 7 sheep high 1 7 7", "report stay 7 cow high 1 3 3", "report stay 7 ox high 1 1 1"), api.ErrLimit},
	} {
		if v, amount, e := manor.Due(x.b, 1, 0); e != x.want || e != api.OK && (v != api.Verdict{} || amount != 0) {
			t.Errorf("Due by %d records: %v, %d, %d, want %d", len(x.b.Equals), v, amount, e, x.want)
		}
	}
	twoFines := setupS()
	twoFines.Rules = "fine first when cow > 3 pays 5\n" + rulesS
	b := manor.Told(transcriptOf(t, twoFines, "table equal cow 0 1 1", "report stay 7 cow high 1 4 4", "report stay 7 cow low 1 0 0", "deed 0 enter 7 5040", "step complain 7 1 first", "step complain 7 1 over"))
	one, _, _ := manor.Due(b, 1, 0)
	other, _, _ := manor.Due(b, 2, 0)
	if one.Least.Num != 5 || other.Least.Num != 36 {
		t.Errorf("Due of two fines: %v, %v", one, other)
	}
}

// K5, K6 against the model, in the books of random seasons.
func TestCourtAsModel(t *testing.T) {
	r := random(6)
	errors := map[api.Errno]int{}
	for range 120 {
		s := setups(r)
		l, _, e := manor.Process(s, papers(t, r, s, 20+r.IntN(60)))
		mustOK(t, "Process", e)
		b := manor.Told(l)
		d := docketOf(b)
		var cases []int
		for id := range len(b.Steps) + 2 {
			if d.state[id] != 0 {
				cases = append(cases, id)
			}
			if got := manor.Case(b, id); got != d.state[id] {
				t.Fatalf("Case(%d) of %q: %d, want %d", id, bodies(l), got, d.state[id])
			}
			judgment, is := manor.Judged(b, id)
			if judgment != d.judgment[id] || is != (d.judgment[id] != api.Step{}) {
				t.Fatalf("Judged(%d) of %q: %v, %t", id, bodies(l), judgment, is)
			}
			checkSteps(t, r, b, id, errors)
			day := r.IntN(60)
			v, amount, e := manor.Due(b, id, day)
			wanted, want, f := modelDue(b, d.complaint[id], day)
			if d.state[id] == 0 {
				wanted, want, f = api.Verdict{}, 0, api.ErrNone
			}
			if v != wanted || amount != want || e != f {
				t.Fatalf("Due(%d, %d) of %q: %v, %d, %d, want %v, %d, %d", id, day, bodies(l), v, amount, e, wanted, want, f)
			}
		}
		if got := manor.Cases(b); !slices.Equal(got, cases) {
			t.Fatalf("Cases of %q: %v, want %v", bodies(l), got, cases)
		}
	}
	for _, e := range []api.Errno{api.OK, api.ErrArg, api.ErrTime, api.ErrNone, api.ErrState, api.ErrEarly, api.ErrLate, api.ErrDoubt, api.ErrSame, api.ErrProof} {
		if errors[e] < 2 {
			t.Errorf("CheckStep: error %d only %d times", e, errors[e])
		}
	}
}

// checkSteps compares what CheckStep says of some steps of a case with the model.
func checkSteps(t *testing.T, r *rand.Rand, b api.Books, id int, errors map[api.Errno]int) {
	t.Helper()
	for kind := api.StepComplain; kind <= api.StepReopen; kind++ {
		x := api.Step{Id: len(b.Steps) + 1, Day: pick(r, 0, 20, 30, 60, 100), Kind: kind, Of: id}
		switch kind {
		case api.StepComplain:
			x.Of, x.Owner, x.Tick, x.Fine = 0, 7, r.IntN(5), pick(r, "over", "late")
		case api.StepJudge:
			v, amount, _ := manor.Due(b, id, x.Day)
			x.Verdict, x.Amount = v.Kind, amount
			if r.IntN(3) == 0 {
				x.Verdict, x.Amount = uint8(1+r.IntN(3)), 0
			}
		}
		if r.IntN(10) == 0 {
			x.Id += pick(r, 1, -1)
		}
		e := manor.CheckStep(b, x)
		errors[e]++
		if want := modelRefusal(b, x); e != want {
			t.Fatalf("CheckStep(%+v) by %+v: %d, want %d", x, b, e, want)
		}
	}
}
