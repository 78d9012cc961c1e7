package manor

import "couchant/api"

// stepWords are the words of the kinds of steps.
var stepWords = [api.StepReopen + 1]string{
	api.StepComplain: "complain", api.StepSummon: "summon", api.StepReply: "reply",
	api.StepView: "view", api.StepJudge: "judge", api.StepReopen: "reopen",
}

// verdictWords are the words of the kinds of verdicts.
var verdictWords = [api.VerdictOpen + 1]string{
	api.VerdictSure: "sure", api.VerdictNone: "none", api.VerdictOpen: "open",
}

// isStep tells whether the fields of a step are as its Kind asks.
func isStep(x api.Step) bool {
	if !within(x.Id, 1, api.MaxSteps) || !isDay(x.Day) || x.Kind < api.StepComplain || x.Kind > api.StepReopen {
		return false
	}
	// What is left when the fields that its Kind uses are right, and made zero, has to be zero.
	rest := x
	rest.Id, rest.Day, rest.Kind = 0, 0, 0
	if x.Kind == api.StepComplain {
		rest.Owner, rest.Tick, rest.Fine = 0, 0, ""
		return rest == api.Step{} && within(x.Owner, 1, api.MaxOwner) && within(x.Tick, 0, api.MaxTicks) && isName(x.Fine)
	}
	rest.Of = 0
	if x.Kind == api.StepJudge {
		rest.Verdict, rest.Amount = 0, 0
		if !isJudgment(x.Verdict, x.Amount) {
			return false
		}
	}
	return rest == api.Step{} && within(x.Of, 1, x.Id-1)
}

// isJudgment tells whether a verdict can come with an amount.
func isJudgment(verdict uint8, amount int) bool {
	switch verdict {
	case api.VerdictSure:
		return within(amount, 0, api.MaxMoney)
	case api.VerdictNone, api.VerdictOpen:
		return amount == 0
	}
	return false
}

// WriteStep returns the line of a step.
func WriteStep(x api.Step) (string, api.Errno) {
	if !isStep(x) {
		return "", api.ErrArg
	}
	line := behind("", x.Id, x.Day)[1:] + " " + stepWords[x.Kind]
	if x.Kind == api.StepComplain {
		return behind(line, x.Owner, x.Tick) + " " + x.Fine, api.OK
	}
	line = behind(line, x.Of)
	if x.Kind == api.StepJudge {
		line += " " + verdictWords[x.Verdict]
		if x.Verdict == api.VerdictSure {
			line = behind(line, x.Amount)
		}
	}
	return line, api.OK
}

// ReadStep returns the step with a line.
func ReadStep(line string) (api.Step, api.Errno) {
	var x api.Step
	e := attempt[api.Errno](func() { x = readStep(line) })
	return x, e
}

// readStep returns the step with a line, and gives up if there is none.
func readStep(line string) api.Step {
	w := wordsOf(line)
	need(len(w) >= 4, api.ErrForm)
	x := api.Step{Id: number(w[0]), Day: number(w[1]), Kind: stepOf(w[2])}
	rest := w[3:]
	switch {
	case x.Kind == api.StepComplain:
		need(len(rest) == 3, api.ErrForm)
		x.Owner, x.Tick, x.Fine = number(rest[0]), number(rest[1]), rest[2]
	case x.Kind == api.StepJudge:
		need(len(rest) >= 2, api.ErrForm)
		x.Of, x.Verdict = number(rest[0]), verdictOf(rest[1])
		if len(rest) > 2 {
			x.Amount = number(rest[2])
		}
	default:
		x.Of = number(rest[0])
	}
	// Writing the step again shows what else is wrong with the line.
	again, e := WriteStep(x)
	need(e == api.OK && again == line, api.ErrForm)
	return x
}

// stepOf returns the kind of steps with a word.
func stepOf(word string) uint8 {
	for kind := api.StepComplain; kind <= api.StepReopen; kind++ {
		if stepWords[kind] == word {
			return kind
		}
	}
	panic(api.ErrForm)
}

// verdictOf returns the kind of verdicts with a word.
func verdictOf(word string) uint8 {
	for kind := api.VerdictSure; kind <= api.VerdictOpen; kind++ {
		if verdictWords[kind] == word {
			return kind
		}
	}
	panic(api.ErrForm)
}
