package manor

import (
	"strings"

	"couchant/api"
	"couchant/fell"
	"couchant/pound"
	"couchant/rule"
	"couchant/tally"
)

// founding is how many entries say what stays: the fell, the rules and the rate of the house.
const founding = 3

// judges returns what judges entries of each kind by the books before them: it puts what an entry says into the books, or gives up with what is wrong with it.
func judges(b *api.Books, x api.Entry) map[uint8]func() {
	return map[uint8]func(){
		api.EntFell:  func() { b.Fell = fellOf(x.Body) },
		api.EntRules: func() { b.Rules = rulesOf(x.Body) },
		api.EntHouse: func() { b.House = houseOf(x.Body) },
		api.EntEqual: func() { b.Equals, _ = equals(b).judged(x.Body, x.Day, api.FindRecord) },
		api.EntDeed:  func() { b.Deeds, _ = deeds(b).judged(x.Body, x.Day, api.FindRecord) },
		api.EntRecount: func() {
			b.Recounts, _ = recounts(b).judged(x.Body, x.Day, api.FindRecord)
		},
		api.EntReport: func() { b.Reports, _ = reports(b).judged(x.Body, x.Day, api.FindRecord) },
		api.EntCount:  func() { b.Reports = withCount(b, x) },
		api.EntStep:   func() { b.Steps, _ = steps(b).judged(x.Body, x.Day, api.FindStep) },
		api.EntBound:  func() { checkTold(*b, x) },
		api.EntNote:   func() { need(isNote(x.Body), api.FindForm) },
	}
}

// fellOf returns the fell whose source a Body is.
func fellOf(body string) api.Fell {
	f, fault := fell.ParseFell(body)
	need(fault == api.Fault{} && fell.PrintFell(f) == body, api.FindForm)
	return f
}

// rulesOf returns the rules whose source a Body is.
func rulesOf(body string) api.Rules {
	w, fault := rule.Parse(body)
	need(fault == api.Fault{} && rule.Print(w) == body, api.FindForm)
	return w
}

// houseLine returns the Body that says the rate of the house.
func houseLine(r api.Rate) string { return behind("house", r.Misses, r.Doubles) }

// houseOf returns the rate that a Body says.
func houseOf(body string) api.Rate {
	var r api.Rate
	e := attempt[api.Errno](func() {
		n := numbers(exactly(2, without(1, body))...)
		r = api.Rate{Misses: n[0], Doubles: n[1]}
	})
	need(e == api.OK && tally.CheckRate(r) == api.OK && houseLine(r) == body, api.FindForm)
	return r
}

func isNote(s string) bool { return len(s) <= api.MaxNote && !strings.Contains(s, "\n") }

// withCount returns the reports with that of an entry that is a count.
func withCount(b *api.Books, x api.Entry) []api.Report {
	line, c := cutCount(x.Body)
	r, e := reports(b).read(line)
	need(e == api.OK && r.Kind != api.ReportVoid, api.FindForm)
	l, r := reports(b).judged(line, x.Day, api.FindRecord)
	c.Id, c.Day = r.Id, x.Day
	var low, high int
	e = attempt[api.Errno](func() { low, high = endsOf(*b, c) })
	need(e == api.OK && low == r.Low && high == r.High, api.FindCount)
	return l
}

// checkTold gives up unless an entry says what is told of a bound.
func checkTold(b api.Books, x api.Entry) {
	figure := figureOf(x.Body)
	told := ""
	e := attempt[api.Errno](func() { told = toldOf(b, figure, x.Day) })
	need(e == api.OK && told == x.Body, api.FindTold)
}

// isInPlace tells whether an entry of this kind and on this day may have its Seq.
func isInPlace(x api.Entry) bool {
	if x.Seq < founding {
		return int(x.Kind) == x.Seq+1 && x.Day == 0
	}
	return x.Kind > api.EntHouse
}

// wrongWith returns what is wrong with an entry behind others that have made the books, 0 if nothing is; then the books are with it.
func wrongWith(b *api.Books, r row, x api.Entry) uint8 {
	return attempt[uint8](func() {
		need(r.refusal(x) == api.OK, api.FindLink)
		need(isInPlace(x), api.FindFirst)
		judges(b, x)[x.Kind]()
	})
}

// check returns the finding for entries, and the books of those before it.
func check(l []api.Entry) (api.Finding, api.Books) {
	var b api.Books
	var r row
	for i, x := range l {
		if what := wrongWith(&b, r, x); what != 0 {
			return api.Finding{At: i, What: what}, b
		}
		r = r.with(x)
	}
	if len(l) < founding {
		return api.Finding{At: len(l), What: api.FindFirst}, b
	}
	return api.Finding{Ok: true}, b
}

// Check returns whether nothing is wrong with entries, or with which one something is, and what.
func Check(l []api.Entry) api.Finding {
	finding, _ := check(l)
	return finding
}

// Told returns the books of the entries before the first one with which something is wrong.
func Told(l []api.Entry) api.Books {
	_, b := check(l)
	return b
}

// Backed checks that each fine of a roll of n reeves was judged: it returns the index of the first posting that is refused, and the error.
func Backed(l []api.Entry, n int, roll []api.Posting) (int, api.Errno) {
	finding, b := check(l)
	if !finding.Ok {
		return 0, api.ErrLink
	}
	if i, e := pound.CheckRoll(n, roll); e != api.OK {
		return i, e
	}
	for i, p := range roll {
		if p.Kind == api.PostFine && !wasJudged(b, p) {
			return i, api.ErrProof
		}
	}
	return 0, api.OK
}

// wasJudged tells whether a judgment stands behind a fine.
func wasJudged(b api.Books, p api.Posting) bool {
	c := suitOf(b, p.Case)
	for _, x := range c.steps {
		if x.Kind == api.StepJudge && x.Day <= p.Tick && x.Verdict == api.VerdictSure && x.Amount == p.Amount {
			return c.steps[0].Owner == p.Owner
		}
	}
	return false
}
