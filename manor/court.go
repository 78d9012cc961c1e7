package manor

import (
	"slices"

	"couchant/api"
	"couchant/bound"
	"couchant/deed"
	"couchant/rule"
	"couchant/share"
)

// suit is the steps of a case: the complaint, and what is about it. Without steps there is no such case.
type suit struct{ steps []api.Step }

// suitOf returns the case with an Id.
func suitOf(b api.Books, id int) suit {
	var c suit
	for _, x := range b.Steps {
		about := x.Of
		if x.Kind == api.StepComplain {
			about = x.Id
		}
		if about == id {
			c.steps = append(c.steps, x)
		}
	}
	return c
}

// last returns the last step of a kind.
func (c suit) last(kind uint8) (api.Step, bool) {
	for _, x := range slices.Backward(c.steps) {
		if x.Kind == kind {
			return x, true
		}
	}
	return api.Step{}, false
}

// state returns the state behind the last step.
func (c suit) state() uint8 {
	if len(c.steps) == 0 {
		return api.CaseNone
	}
	switch x := c.steps[len(c.steps)-1]; x.Kind {
	case api.StepComplain:
		return api.CaseOpen
	case api.StepSummon:
		return api.CaseCalled
	case api.StepReply:
		return api.CaseHeard
	case api.StepJudge:
		return stateBy(x.Verdict)
	}
	return api.CaseViewed
}

// stateBy returns the state behind a judgment.
func stateBy(verdict uint8) uint8 {
	switch verdict {
	case api.VerdictSure:
		return api.CaseFined
	case api.VerdictNone:
		return api.CaseClear
	}
	return api.CaseDoubt
}

// isOverdue tells whether a day is too late for a reply to the summons.
func (c suit) isOverdue(day int) bool {
	summons, _ := c.last(api.StepSummon)
	return day-summons.Day > api.ReplyDays
}

// mayJudge gives up unless the case may be judged on a day.
func (c suit) mayJudge(day int) {
	switch c.state() {
	case api.CaseViewed, api.CaseDoubt:
	case api.CaseCalled:
		need(c.isOverdue(day), api.ErrEarly)
	default:
		panic(api.ErrState)
	}
}

// due returns what is due in the case, by the books on a day.
func (c suit) due(b api.Books, day int) (api.Verdict, int) {
	complaint := c.steps[0]
	low, high := plights(b, complaint, day)
	v := must(rule.Judge(b.Rules, fineOf(b.Rules, complaint.Fine), low, high))
	// Least is 0 unless the fine is sure.
	return v, min(share.Floor(v.Least), api.MaxMoney)
}

// plights returns the ends of what may be true of a complaint, by the books on a day.
func plights(b api.Books, complaint api.Step, day int) (low, high api.Plight) {
	owner, tick := complaint.Owner, complaint.Tick
	low = api.Plight{Tick: tick, Stints: must(share.Norm(deed.Uses(b.Deeds, day, tick, owner), api.Whole))}
	high = low
	for _, sort := range share.Sorts(b.Equals, tick, day) {
		each := must(share.Of(b.Equals, sort, tick, day)).Stints
		fewest, most, e := bound.Ends(b.Fell, b.Reports, day, onFell(owner, sort, tick))
		need(e == api.OK, e)
		low.Herds = append(low.Herds, api.Herd{Sort: sort, Number: fewest, Each: each})
		high.Herds = append(high.Herds, api.Herd{Sort: sort, Number: most, Each: each})
	}
	return low, high
}

// onFell returns the figure of the beasts on the whole fell.
func onFell(owner int, sort string, tick int) api.Figure {
	return api.Figure{Owner: owner, Sort: sort, Place: api.AllPlaces, Tick: tick}
}

// fineOf returns the index of the fine with a name, -1 if there is none.
func fineOf(w api.Rules, name string) int {
	return slices.IndexFunc(w.Fines, func(x api.Fine) bool { return x.Name == name })
}

// CheckStep returns why a step is refused.
func CheckStep(b api.Books, x api.Step) api.Errno {
	return attempt[api.Errno](func() { checkStep(b, x) })
}

// checkStep gives up unless a step may be taken.
func checkStep(b api.Books, x api.Step) {
	need(isStep(x) && x.Id == steps(&b).next(), api.ErrArg)
	need(len(b.Steps) == 0 || x.Day >= b.Steps[len(b.Steps)-1].Day, api.ErrTime)
	if x.Kind == api.StepComplain {
		need(fineOf(b.Rules, x.Fine) >= 0 && x.Tick <= b.Fell.Ticks, api.ErrNone)
		return
	}
	c := suitOf(b, x.Of)
	need(c.state() != api.CaseNone, api.ErrNone)
	switch x.Kind {
	case api.StepSummon:
		need(c.state() == api.CaseOpen, api.ErrState)
	case api.StepReply:
		need(c.state() == api.CaseCalled, api.ErrState)
		need(!c.isOverdue(x.Day), api.ErrLate)
	case api.StepView:
		need(c.state() == api.CaseHeard, api.ErrState)
	case api.StepJudge:
		c.mayJudge(x.Day)
		v, amount := c.due(b, x.Day)
		need(x.Verdict == v.Kind && x.Amount == amount, api.ErrProof)
	case api.StepReopen:
		need(c.state() == api.CaseFined || c.state() == api.CaseClear, api.ErrState)
		v, amount := c.due(b, x.Day)
		judgment, _ := c.last(api.StepJudge)
		need(judgment.Verdict != v.Kind || judgment.Amount != amount, api.ErrSame)
	}
}

// Case returns the state of a case.
func Case(b api.Books, id int) uint8 { return suitOf(b, id).state() }

// Cases returns the Ids of all cases.
func Cases(b api.Books) []int {
	var l []int
	for _, x := range b.Steps {
		if x.Kind == api.StepComplain {
			l = append(l, x.Id)
		}
	}
	slices.Sort(l)
	return l
}

// Due returns what is due in a case on a day.
func Due(b api.Books, id, day int) (api.Verdict, int, api.Errno) {
	c := suitOf(b, id)
	if c.state() == api.CaseNone {
		return api.Verdict{}, 0, api.ErrNone
	}
	var v api.Verdict
	amount := 0
	e := attempt[api.Errno](func() { v, amount = c.due(b, day) })
	return v, amount, e
}

// Judged returns the last judgment in a case.
func Judged(b api.Books, id int) (api.Step, bool) { return suitOf(b, id).last(api.StepJudge) }
