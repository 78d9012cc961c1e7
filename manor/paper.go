package manor

import (
	"strings"

	"couchant/api"
	"couchant/fell"
	"couchant/rule"
	"couchant/tally"
)

// steward writes the transcript: the entries, what they say, and the day that it is.
type steward struct {
	row     row
	entries []api.Entry
	books   api.Books
	today   int
}

// newSteward returns a steward with the three first entries.
func newSteward(s api.Setup) (*steward, api.Errno) {
	f, fault := fell.ParseFell(s.Fell)
	if fault.Err != api.OK {
		return nil, fault.Err
	}
	w, fault := rule.Parse(s.Rules)
	if fault.Err != api.OK {
		return nil, fault.Err
	}
	if len(rule.Print(w)) > api.MaxBody {
		return nil, api.ErrLimit
	}
	if e := tally.CheckRate(s.House); e != api.OK {
		return nil, e
	}
	clerk := &steward{books: api.Books{Fell: f, Rules: w, House: s.House}}
	e := attempt[api.Errno](func() {
		clerk.enter(api.EntFell, fell.PrintFell(f))
		clerk.enter(api.EntRules, rule.Print(w))
		clerk.enter(api.EntHouse, houseLine(s.House))
	})
	return clerk, e
}

// enter writes an entry, and gives up if there is no room for it.
func (s *steward) enter(kind uint8, body string) {
	x := must(s.row.next(s.today, kind, body))
	s.row = s.row.with(x)
	s.entries = append(s.entries, x)
}

// papers returns what processes a paper with a word: it is given what is behind the word, and gives up with the error before it changes anything.
func papers() map[string]func(s *steward, rest string) {
	return map[string]func(s *steward, rest string){
		"day": (*steward).setDay, "table": (*steward).table, "deed": (*steward).deed, "recount": (*steward).recount,
		"report": (*steward).report, "count": (*steward).count, "step": (*steward).step, "judge": (*steward).judge,
		"bound": (*steward).bound, "note": (*steward).note,
	}
}

// process processes a paper.
func (s *steward) process(text string) api.Errno {
	return attempt[api.Errno](func() {
		word, rest, hasRest := strings.Cut(text, " ")
		work, is := papers()[word]
		need(is && hasRest, api.ErrForm)
		work(s, rest)
	})
}

func (s *steward) setDay(rest string) {
	day := number(rest)
	need(day <= api.MaxDay, api.ErrArg)
	need(day >= s.today, api.ErrTime)
	s.today = day
}

func (s *steward) table(rest string)   { file(s, equals(&s.books), api.EntEqual, rest) }
func (s *steward) deed(rest string)    { file(s, deeds(&s.books), api.EntDeed, rest) }
func (s *steward) recount(rest string) { file(s, recounts(&s.books), api.EntRecount, rest) }
func (s *steward) report(rest string)  { file(s, reports(&s.books), api.EntReport, rest) }
func (s *steward) step(rest string)    { file(s, steps(&s.books), api.EntStep, rest) }

// file writes an entry with the next record of a list, known today, that says something.
func file[T any](s *steward, l shelf[T], kind uint8, says string) {
	line := l.line(s.today, says)
	x := must(l.read(line))
	with := must(l.add(*l.list, x))
	s.enter(kind, line)
	*l.list = with
}

func (s *steward) count(rest string) {
	w := exactly(8, rest)
	n := numbers(w[1], w[4], w[5], w[6], w[7])
	l := reports(&s.books)
	low, high := endsOf(s.books, api.Count{Id: l.next(), Day: s.today, Shepherd: n[2], Number: n[3], Worn: n[4]})
	line := l.line(s.today, behind(strings.Join(w[:5], " "), low, high))
	with := must(l.add(*l.list, must(l.read(line))))
	s.enter(api.EntCount, line+behind(" by", n[2:]...))
	s.books.Reports = with
}

func (s *steward) judge(rest string) {
	id := number(rest)
	c, l := suitOf(s.books, id), steps(&s.books)
	need(c.state() != api.CaseNone, api.ErrNone)
	need(l.next() <= api.MaxSteps, api.ErrArg)
	c.mayJudge(s.today)
	v, amount := c.due(s.books, s.today)
	x := api.Step{Id: l.next(), Day: s.today, Kind: api.StepJudge, Of: id, Verdict: v.Kind, Amount: amount}
	line := must(WriteStep(x))
	s.enter(api.EntStep, line)
	s.books.Steps = append(s.books.Steps, x)
}

func (s *steward) bound(rest string) {
	w := exactly(3, rest)
	n := numbers(w[0], w[2])
	s.enter(api.EntBound, toldOf(s.books, onFell(n[0], w[1], n[1]), s.today))
}

func (s *steward) note(rest string) {
	need(isNote(rest), api.ErrArg)
	s.enter(api.EntNote, rest)
}

// Process returns the transcript of a setup and of texts, and for each text its error.
func Process(s api.Setup, texts []string) ([]api.Entry, []api.Errno, api.Errno) {
	clerk, e := newSteward(s)
	if e != api.OK {
		return nil, nil, e
	}
	if len(texts) > api.MaxTexts {
		return nil, nil, api.ErrLimit
	}
	for _, text := range texts {
		if len(text) > api.MaxText {
			return nil, nil, api.ErrLimit
		}
	}
	var answers []api.Errno
	for _, text := range texts {
		answers = append(answers, clerk.process(text))
	}
	return clerk.entries, answers, api.OK
}

// Papers returns texts that write the entries behind the first three.
func Papers(l []api.Entry) ([]string, api.Errno) {
	if !Check(l).Ok {
		return nil, api.ErrLink
	}
	var texts []string
	today := 0
	for _, x := range l[founding:] {
		if x.Day > today {
			texts, today = append(texts, behind("day", x.Day)), x.Day
		}
		texts = append(texts, paperOf(x))
	}
	return texts, api.OK
}

// paperOf returns the text that writes an entry with which nothing is wrong.
func paperOf(x api.Entry) string {
	// Records begin with their Id and a day, which the steward knows.
	rest := without(2, x.Body)
	w := strings.Split(rest, " ")
	switch x.Kind {
	case api.EntEqual:
		return "table " + rest
	case api.EntDeed:
		return "deed " + rest
	case api.EntRecount:
		return "recount " + rest
	case api.EntReport:
		return "report " + rest
	case api.EntCount:
		return "count " + strings.Join(append(w[:5:5], w[8:]...), " ")
	case api.EntStep:
		return "step " + rest
	case api.EntBound:
		return strings.Join(strings.Split(x.Body, " ")[:4], " ")
	}
	return "note " + x.Body
}
