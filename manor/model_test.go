package manor_test

import (
	"crypto/sha256"
	"fmt"
	"regexp"
	"slices"
	"strconv"
	"strings"

	"couchant/api"
	"couchant/bound"
	"couchant/deed"
	"couchant/fell"
	"couchant/rule"
	"couchant/share"
	"couchant/tally"
)

// The chapter's words written a second time: forms by regular expressions, states by replaying all steps, counts by trying all true numbers.

// forms are those that were needed so far.
var forms = map[string]*regexp.Regexp{}

// N and W in a form are a number and a word.
func form(s string) *regexp.Regexp {
	if forms[s] == nil {
		numbers := strings.ReplaceAll(s, "N", `(0|[1-9][0-9]{0,8})`)
		forms[s] = regexp.MustCompile(`\A(?:` + strings.ReplaceAll(numbers, "W", `([^ \n]+)`) + `)\z`)
	}
	return forms[s]
}

// found returns the parts of a text that has a form.
func found(f *regexp.Regexp, s string) ([]string, bool) {
	parts := f.FindStringSubmatch(s)
	if parts == nil {
		return nil, false
	}
	return parts[1:], true
}

func atoi(s string) int {
	n, wrong := strconv.Atoi(s)
	if wrong != nil {
		panic(wrong)
	}
	return n
}

func modelWellFormed(x api.Entry) bool {
	return x.Seq >= 0 && x.Seq <= 599 && x.Day >= 0 && x.Day <= 100000 && x.Kind >= 1 && x.Kind <= 11 && len(x.Body) <= 20000
}

func modelDigest(x api.Entry) api.Hash {
	if !modelWellFormed(x) {
		return api.Hash{}
	}
	return sha256.Sum256(fmt.Appendf(nil, "e %d %d %d %d\n%s%s", x.Seq, x.Day, x.Kind, len(x.Body), x.Body, x.Prev[:]))
}

func modelLinked(l []api.Entry) (int, api.Errno) {
	for i, x := range l {
		before := api.Entry{}
		want := api.Hash{}
		if i > 0 {
			before = l[i-1]
			want = modelDigest(before)
		}
		switch {
		case i == 600:
			return i, api.ErrLimit
		case !modelWellFormed(x) || x.Seq != i:
			return i, api.ErrArg
		case x.Day < before.Day:
			return i, api.ErrTime
		case x.Prev != want:
			return i, api.ErrLink
		}
	}
	return 0, api.OK
}

// nextId returns one more than the greatest Id.
func nextId(ids ...int) int { return slices.Max(append(ids, 0)) + 1 }

func equalIds(b api.Books) (l []int) {
	for _, x := range b.Equals {
		l = append(l, x.Id)
	}
	return l
}

func deedIds(b api.Books) (l []int) {
	for _, x := range b.Deeds {
		l = append(l, x.Id)
	}
	return l
}

func recountIds(b api.Books) (l []int) {
	for _, x := range b.Recounts {
		l = append(l, x.Id)
	}
	return l
}

func reportIds(b api.Books) (l []int) {
	for _, x := range b.Reports {
		l = append(l, x.Id)
	}
	return l
}

func stepIds(b api.Books) (l []int) {
	for _, x := range b.Steps {
		l = append(l, x.Id)
	}
	return l
}

// docket is what the steps of books say of the cases.
type docket struct {
	complaint, summons, judgment map[int]api.Step
	state                        map[int]uint8
}

func docketOf(b api.Books) docket {
	d := docket{map[int]api.Step{}, map[int]api.Step{}, map[int]api.Step{}, map[int]uint8{}}
	for _, x := range b.Steps {
		switch x.Kind {
		case api.StepComplain:
			d.complaint[x.Id], d.state[x.Id] = x, api.CaseOpen
		case api.StepSummon:
			d.summons[x.Of], d.state[x.Of] = x, api.CaseCalled
		case api.StepReply:
			d.state[x.Of] = api.CaseHeard
		case api.StepView, api.StepReopen:
			d.state[x.Of] = api.CaseViewed
		case api.StepJudge:
			d.judgment[x.Of] = x
			d.state[x.Of] = map[uint8]uint8{1: api.CaseFined, 2: api.CaseClear, 3: api.CaseDoubt}[x.Verdict]
		}
	}
	return d
}

// modelPlights returns the ends of what may be true in a case.
func modelPlights(b api.Books, c api.Step, day int) (low, high api.Plight, e api.Errno) {
	a := deed.AccountOf(b.Deeds, day, c.Tick, c.Owner)
	stints, e := share.Norm(a.Holds-a.Out+a.In, 5040)
	if e != api.OK {
		return low, high, e
	}
	low, high = api.Plight{Tick: c.Tick, Stints: stints}, api.Plight{Tick: c.Tick, Stints: stints}
	for _, sort := range share.Sorts(b.Equals, c.Tick, day) {
		each, e := share.Of(b.Equals, sort, c.Tick, day)
		if e != api.OK {
			return low, high, e
		}
		ends, e := bound.Table(b.Fell, b.Reports, day, c.Owner, sort)
		if e != api.OK {
			return low, high, e
		}
		low.Herds = append(low.Herds, api.Herd{Sort: sort, Number: ends[c.Tick].A, Each: each.Stints})
		high.Herds = append(high.Herds, api.Herd{Sort: sort, Number: ends[c.Tick].B, Each: each.Stints})
	}
	return low, high, api.OK
}

func modelDue(b api.Books, c api.Step, day int) (api.Verdict, int, api.Errno) {
	low, high, e := modelPlights(b, c, day)
	if e != api.OK {
		return api.Verdict{}, 0, e
	}
	names := map[string]int{}
	for i, x := range b.Rules.Fines {
		names[x.Name] = i
	}
	v, e := rule.Judge(b.Rules, names[c.Fine], low, high)
	if e != api.OK || v.Kind != api.VerdictSure {
		return v, 0, e
	}
	return v, min(v.Least.Num/v.Least.Den, 1000000), api.OK
}

// modelStepForm tells whether a step is as K4 says, and returns its line.
func modelStepForm(x api.Step) (string, bool) {
	words := map[uint8]string{1: "complain", 2: "summon", 3: "reply", 4: "view", 5: "judge", 6: "reopen"}
	verdicts := map[uint8]string{1: fmt.Sprint("sure ", x.Amount), 2: "none", 3: "open"}
	head := fmt.Sprintf("%d %d %s ", x.Id, x.Day, words[x.Kind])
	plain := api.Step{Id: x.Id, Day: x.Day, Kind: x.Kind}
	right := x.Id >= 1 && x.Id <= 400 && x.Day >= 0 && x.Day <= 100000 && words[x.Kind] != ""
	isOf := x.Of >= 1 && x.Of < x.Id
	switch x.Kind {
	case api.StepComplain:
		plain.Owner, plain.Tick, plain.Fine = x.Owner, x.Tick, x.Fine
		_, isName := found(form(`[a-z][a-z0-9-]{0,23}`), x.Fine)
		right = right && x.Owner >= 1 && x.Owner <= 40 && x.Tick >= 0 && x.Tick <= 24 && isName
		return head + fmt.Sprintf("%d %d %s", x.Owner, x.Tick, x.Fine), right && x == plain
	case api.StepJudge:
		plain.Of, plain.Verdict, plain.Amount = x.Of, x.Verdict, x.Amount
		right = right && verdicts[x.Verdict] != "" && x.Amount >= 0 && x.Amount <= 1000000 && (x.Amount == 0 || x.Verdict == 1)
		return head + fmt.Sprint(x.Of) + " " + verdicts[x.Verdict], right && isOf && x == plain
	}
	plain.Of = x.Of
	return head + fmt.Sprint(x.Of), right && isOf && x == plain
}

// modelRefusal returns why a step is refused.
func modelRefusal(b api.Books, x api.Step) api.Errno {
	if _, right := modelStepForm(x); !right || x.Id != nextId(stepIds(b)...) {
		return api.ErrArg
	}
	if len(b.Steps) > 0 && x.Day < b.Steps[len(b.Steps)-1].Day {
		return api.ErrTime
	}
	d := docketOf(b)
	if x.Kind == api.StepComplain {
		has := slices.ContainsFunc(b.Rules.Fines, func(f api.Fine) bool { return f.Name == x.Fine })
		if !has || x.Tick > b.Fell.Ticks {
			return api.ErrNone
		}
		return api.OK
	}
	complaint, is := d.complaint[x.Of]
	if !is {
		return api.ErrNone
	}
	if e := modelMay(d, x); e != api.OK || x.Kind != api.StepJudge && x.Kind != api.StepReopen {
		return e
	}
	v, amount, e := modelDue(b, complaint, x.Day)
	switch {
	case e != api.OK:
		return e
	case x.Kind == api.StepJudge && (v.Kind != x.Verdict || amount != x.Amount):
		return api.ErrProof
	case x.Kind == api.StepReopen && d.judgment[x.Of].Verdict == v.Kind && d.judgment[x.Of].Amount == amount:
		return api.ErrSame
	}
	return api.OK
}

// modelMay returns why the state of its case does not let a step be taken.
func modelMay(d docket, x api.Step) api.Errno {
	state := d.state[x.Of]
	over := x.Day > d.summons[x.Of].Day+20
	switch {
	case x.Kind == api.StepSummon && state != api.CaseOpen, x.Kind == api.StepReply && state != api.CaseCalled,
		x.Kind == api.StepView && state != api.CaseHeard, x.Kind == api.StepReopen && state != api.CaseFined && state != api.CaseClear:
		return api.ErrState
	case x.Kind == api.StepReply && over:
		return api.ErrLate
	case x.Kind == api.StepJudge && state == api.CaseCalled && !over:
		return api.ErrEarly
	case x.Kind == api.StepJudge && state != api.CaseCalled && state != api.CaseViewed && state != api.CaseDoubt:
		return api.ErrState
	}
	return api.OK
}

// modelSays returns the Low and the High that a count says, by trying all true numbers.
func modelSays(b api.Books, c api.Count) (int, int, api.Errno) {
	rate, e := tally.RateOf(b.House, b.Recounts, c.Shepherd, c.Day)
	if e != api.OK {
		return 0, 0, e
	}
	if e := tally.CheckCount(c); e != api.OK {
		return 0, 0, e
	}
	var all []int
	for n := range 3000 {
		// It counts from least to most where n are.
		least, most := n-n*rate.Misses/1000, n+n*rate.Doubles/1000
		if most >= c.Number && least <= c.Number+c.Worn {
			all = append(all, n)
		}
	}
	if len(all) == 0 || all[0] > 1000 {
		return 0, 0, api.ErrLimit
	}
	return all[0], min(all[len(all)-1], 1000), api.OK
}

// modelTold returns the Body that tells a bound.
func modelTold(b api.Books, owner int, sort string, tick, day int) (string, api.Errno) {
	x := api.Figure{Owner: owner, Sort: sort, Place: -1, Tick: tick}
	low, high, e := bound.Ends(b.Fell, b.Reports, day, x)
	if e != api.OK {
		return "", e
	}
	words := []string{"bound", fmt.Sprint(owner), sort, fmt.Sprint(tick), fmt.Sprint(low), fmt.Sprint(high)}
	for i, name := range []string{"lower", "upper"} {
		ids, e := bound.Lineage(b.Fell, b.Reports, day, x, i == 1)
		if e != api.OK {
			return "", e
		}
		words = append(words, name)
		for _, id := range ids {
			words = append(words, fmt.Sprint(id))
		}
	}
	return strings.Join(words, " "), api.OK
}

// modelWhat returns what is wrong with the last of some entries, by the books of those before it, and the books with it.
func modelWhat(b api.Books, l []api.Entry) (uint8, api.Books) {
	i := len(l) - 1
	x := l[i]
	if _, e := modelLinked(l); e != api.OK {
		return api.FindLink, b
	}
	if i < 3 && (int(x.Kind) != i+1 || x.Day != 0) || i >= 3 && x.Kind <= 3 {
		return api.FindFirst, b
	}
	switch x.Kind {
	case api.EntFell:
		f, fault := fell.ParseFell(x.Body)
		b.Fell = f
		return when(fault != api.Fault{} || fell.PrintFell(f) != x.Body, api.FindForm), b
	case api.EntRules:
		w, fault := rule.Parse(x.Body)
		b.Rules = w
		return when(fault != api.Fault{} || rule.Print(w) != x.Body, api.FindForm), b
	case api.EntHouse:
		n, is := found(form("house N N"), x.Body)
		if !is {
			return api.FindForm, b
		}
		b.House = api.Rate{Misses: atoi(n[0]), Doubles: atoi(n[1])}
		return when(b.House.Misses > 500 || b.House.Doubles > 500, api.FindForm), b
	case api.EntBound:
		w, is := found(form(`bound N ([^ ]+) N(?: (?s:.*))?`), x.Body)
		if !is {
			return api.FindForm, b
		}
		told, e := modelTold(b, atoi(w[0]), w[1], atoi(w[2]), x.Day)
		return when(e != api.OK || told != x.Body, api.FindTold), b
	case api.EntNote:
		return when(len(x.Body) > 1900 || strings.Contains(x.Body, "\n"), api.FindForm), b
	}
	return modelRecord(b, x)
}

// when returns what is wrong if something is.
func when(wrong bool, what uint8) uint8 {
	if wrong {
		return what
	}
	return 0
}

// modelRecord is modelWhat for entries that are records.
func modelRecord(b api.Books, x api.Entry) (uint8, api.Books) {
	var id, known, next int
	var read, add api.Errno
	with := b
	what := api.FindRecord
	switch x.Kind {
	case api.EntEqual:
		var r api.Equal
		r, read = share.Read(x.Body)
		with.Equals, add = share.Append(b.Equals, r)
		id, known, next = r.Id, r.Known, nextId(equalIds(b)...)
	case api.EntDeed:
		var r api.Deed
		r, read = deed.Read(x.Body)
		with.Deeds, add = deed.Append(b.Deeds, r)
		id, known, next = r.Id, r.Known, nextId(deedIds(b)...)
	case api.EntRecount:
		var r api.Recount
		r, read = tally.ReadRecount(x.Body)
		with.Recounts = append(slices.Clone(b.Recounts), r)
		_, add = tally.CheckRecounts(with.Recounts)
		id, known, next = r.Id, r.Known, nextId(recountIds(b)...)
	case api.EntStep:
		var r api.Step
		r, read = modelReadStep(x.Body)
		with.Steps = append(slices.Clone(b.Steps), r)
		add = modelRefusal(b, r)
		id, known, next = r.Id, r.Day, nextId(stepIds(b)...)
		what = api.FindStep
	default:
		return modelReport(b, x)
	}
	switch {
	case read != api.OK:
		return api.FindForm, b
	case id != next || known != x.Day || add != api.OK:
		return what, b
	}
	return 0, with
}

// modelReport is modelWhat for reports and counts.
func modelReport(b api.Books, x api.Entry) (uint8, api.Books) {
	line := x.Body
	var n []string
	if x.Kind == api.EntCount {
		parts, is := found(form("((?s:.*)) by N N N"), x.Body)
		if !is {
			return api.FindForm, b
		}
		line, n = parts[0], parts[1:]
	}
	r, e := fell.Read(b.Fell, line)
	if e != api.OK || x.Kind == api.EntCount && r.Kind == api.ReportVoid {
		return api.FindForm, b
	}
	with := b
	with.Reports, e = fell.Append(b.Fell, b.Reports, r)
	if r.Known != x.Day || r.Id != nextId(reportIds(b)...) || e != api.OK {
		return api.FindRecord, b
	}
	if x.Kind == api.EntCount {
		low, high, e := modelSays(b, api.Count{Id: r.Id, Day: x.Day, Shepherd: atoi(n[0]), Number: atoi(n[1]), Worn: atoi(n[2])})
		if e != api.OK || low != r.Low || high != r.High {
			return api.FindCount, b
		}
	}
	return 0, with
}

// modelReadStep returns the step with a line.
func modelReadStep(line string) (api.Step, api.Errno) {
	var x api.Step
	if w, is := found(form("N N complain N N W"), line); is {
		x = api.Step{Id: atoi(w[0]), Day: atoi(w[1]), Kind: 1, Owner: atoi(w[2]), Tick: atoi(w[3]), Fine: w[4]}
	} else if w, is := found(form("N N (summon|reply|view|reopen) N"), line); is {
		kinds := map[string]uint8{"summon": 2, "reply": 3, "view": 4, "reopen": 6}
		x = api.Step{Id: atoi(w[0]), Day: atoi(w[1]), Kind: kinds[w[2]], Of: atoi(w[3])}
	} else if w, is := found(form("N N judge N sure N"), line); is {
		x = api.Step{Id: atoi(w[0]), Day: atoi(w[1]), Kind: 5, Of: atoi(w[2]), Verdict: 1, Amount: atoi(w[3])}
	} else if w, is := found(form("N N judge N (none|open)"), line); is {
		x = api.Step{Id: atoi(w[0]), Day: atoi(w[1]), Kind: 5, Of: atoi(w[2]), Verdict: map[string]uint8{"none": 2, "open": 3}[w[3]]}
	}
	if _, right := modelStepForm(x); !right {
		return api.Step{}, api.ErrForm
	}
	return x, api.OK
}

// modelCheck returns the finding for entries, and the books of those before it.
func modelCheck(l []api.Entry) (api.Finding, api.Books) {
	var b api.Books
	for i := range l {
		what, with := modelWhat(b, l[:i+1])
		if what != 0 {
			return api.Finding{At: i, What: what}, b
		}
		b = with
	}
	if len(l) < 3 {
		return api.Finding{At: len(l), What: 2}, b
	}
	return api.Finding{Ok: true}, b
}

// told is what a paper does: it makes a day today, or writes an entry, or has an error.
type told struct {
	today int
	kind  uint8
	body  string
	e     api.Errno
}

// modelPaper returns what a paper does, by books and a day, where some entries are there.
func modelPaper(b api.Books, today, entries int, text string) told {
	x := modelText(b, today, text)
	if x.kind > 0 && x.e == api.OK && entries >= 600 {
		return told{e: api.ErrLimit}
	}
	return x
}

func modelText(b api.Books, today int, text string) told {
	if w, is := found(form("day N"), text); is {
		day := atoi(w[0])
		switch {
		case day > 100000:
			return told{e: api.ErrArg}
		case day < today:
			return told{e: api.ErrTime}
		}
		return told{today: day}
	}
	if w, is := found(form("(table|deed|report|step) ((?s:.*))"), text); is {
		return modelFiled(b, today, w[0], w[1])
	}
	if w, is := found(form("recount (N N N N)"), text); is {
		return modelFiled(b, today, "recount", w[0])
	}
	if w, is := found(form("count W N W W N N N N"), text); is {
		c := api.Count{Id: nextId(reportIds(b)...), Day: today, Shepherd: atoi(w[5]), Number: atoi(w[6]), Worn: atoi(w[7])}
		low, high, e := modelSays(b, c)
		if e != api.OK {
			return told{e: e}
		}
		line := fmt.Sprintf("%d %d %s %d %d", c.Id, today, strings.Join(w[:5], " "), low, high)
		r, e := fell.Read(b.Fell, line)
		if e != api.OK {
			return told{e: e}
		}
		_, e = fell.Append(b.Fell, b.Reports, r)
		return told{kind: api.EntCount, body: line + " by " + strings.Join(w[5:], " "), e: e}
	}
	if w, is := found(form("judge N"), text); is {
		return modelJudge(b, today, atoi(w[0]))
	}
	if w, is := found(form("bound N W N"), text); is {
		body, e := modelTold(b, atoi(w[0]), w[1], atoi(w[2]), today)
		return told{kind: api.EntBound, body: body, e: e}
	}
	if w, is := found(form("note ((?s:.*))"), text); is {
		if len(w[0]) > 1900 || strings.Contains(w[0], "\n") {
			return told{e: api.ErrArg}
		}
		return told{kind: api.EntNote, body: w[0]}
	}
	return told{e: api.ErrForm}
}

// modelFiled returns what a paper does that brings a record.
func modelFiled(b api.Books, today int, word, rest string) told {
	line := func(ids []int) string { return fmt.Sprintf("%d %d %s", nextId(ids...), today, rest) }
	var x told
	switch word {
	case "table":
		x = told{kind: api.EntEqual, body: line(equalIds(b))}
		r, e := share.Read(x.body)
		if x.e = e; e == api.OK {
			_, x.e = share.Append(b.Equals, r)
		}
	case "deed":
		x = told{kind: api.EntDeed, body: line(deedIds(b))}
		r, e := deed.Read(x.body)
		if x.e = e; e == api.OK {
			_, x.e = deed.Append(b.Deeds, r)
		}
	case "report":
		x = told{kind: api.EntReport, body: line(reportIds(b))}
		r, e := fell.Read(b.Fell, x.body)
		if x.e = e; e == api.OK {
			_, x.e = fell.Append(b.Fell, b.Reports, r)
		}
	case "recount":
		x = told{kind: api.EntRecount, body: line(recountIds(b))}
		r, e := tally.ReadRecount(x.body)
		if x.e = e; e == api.OK {
			_, x.e = tally.CheckRecounts(append(slices.Clone(b.Recounts), r))
		}
	case "step":
		x = told{kind: api.EntStep, body: line(stepIds(b))}
		r, e := modelReadStep(x.body)
		if x.e = e; e == api.OK {
			x.e = modelRefusal(b, r)
		}
	}
	return x
}

// modelJudge returns what a paper does that judges a case.
func modelJudge(b api.Books, today, id int) told {
	d := docketOf(b)
	next := nextId(stepIds(b)...)
	switch {
	case d.state[id] == 0:
		return told{e: api.ErrNone}
	case next > 400:
		return told{e: api.ErrArg}
	}
	if e := modelMay(d, api.Step{Kind: api.StepJudge, Of: id, Day: today}); e != api.OK {
		return told{e: e}
	}
	v, amount, e := modelDue(b, d.complaint[id], today)
	if e != api.OK {
		return told{e: e}
	}
	body, _ := modelStepForm(api.Step{Id: next, Day: today, Kind: api.StepJudge, Of: id, Verdict: v.Kind, Amount: amount})
	return told{kind: api.EntStep, body: body}
}

// modelProcess returns the transcript of a setup and of texts, and for each text its error.
func modelProcess(s api.Setup, texts []string) ([]api.Entry, []api.Errno) {
	f, _ := fell.ParseFell(s.Fell)
	w, _ := rule.Parse(s.Rules)
	var l []api.Entry
	var b api.Books
	today := 0
	write := func(kind uint8, body string) {
		x := api.Entry{Seq: len(l), Day: today, Kind: kind, Body: body}
		if len(l) > 0 {
			x.Prev = modelDigest(l[len(l)-1])
		}
		l = append(l, x)
		what, with := modelWhat(b, l)
		if what != 0 {
			panic(fmt.Sprintf("%q: %d", body, what))
		}
		b = with
	}
	write(api.EntFell, fell.PrintFell(f))
	write(api.EntRules, rule.Print(w))
	write(api.EntHouse, fmt.Sprintf("house %d %d", s.House.Misses, s.House.Doubles))
	var answers []api.Errno
	for _, text := range texts {
		x := modelPaper(b, today, len(l), text)
		answers = append(answers, x.e)
		switch {
		case x.e != api.OK:
		case x.kind == 0:
			today = x.today
		default:
			write(x.kind, x.body)
		}
	}
	return l, answers
}
