package manor

import (
	"strings"

	"couchant/api"
	"couchant/pound"
)

// session is a run of a script: what it has printed, and its manor, if there is one.
type session struct {
	strings.Builder
	manor *Manor
}

// act is what a line of a script does.
type act func(s *session)

// source is the lines of a script, of which some were read.
type source struct {
	lines []string
	at    int
}

// take reads some lines.
func (src *source) take(n int) []string {
	need(n <= len(src.lines)-src.at, api.ErrForm)
	l := src.lines[src.at : src.at+n]
	src.at += n
	return l
}

// Run runs a script and returns what it prints, or the number of the first line that has no form.
func Run(script string) (string, int, api.Errno) {
	if len(script) > api.MaxScript {
		return "", 0, api.ErrLimit
	}
	acts, line := actsOf(script)
	if line > 0 {
		return "", line, api.ErrForm
	}
	var s session
	for _, do := range acts {
		do(&s)
	}
	return s.String(), 0, api.OK
}

// actsOf returns what the lines of a script do, or the number of the first one that has no form.
func actsOf(script string) ([]act, int) {
	src := &source{lines: linesOf(script)}
	var acts []act
	for src.at < len(src.lines) {
		at := src.at
		e := attempt[api.Errno](func() { acts = append(acts, actOf(src)) })
		if e != api.OK {
			return nil, at + 1
		}
	}
	return acts, 0
}

// linesOf returns the lines of a script.
func linesOf(script string) []string {
	l := strings.Split(script, "\n")
	if last := len(l) - 1; l[last] == "" {
		return l[:last]
	}
	return l
}

// actOf returns what the next line does, and gives up if it has no form.
func actOf(src *source) act {
	line := src.take(1)[0]
	if line == "" || line[0] == '#' {
		return func(*session) {}
	}
	word, rest, hasRest := strings.Cut(line, " ")
	if word == "setup" {
		return readSetup(src, rest)
	}
	if read, is := questions()[word]; is && !hasRest {
		return read
	}
	read, is := commands()[word]
	need(is && hasRest, api.ErrForm)
	return read(rest)
}

// print prints a line of a word and numbers.
func (s *session) print(word string, n ...int) {
	s.WriteString(behind(word, n...))
	s.WriteByte('\n')
}

// answer prints what a command has returned: a word and numbers, or its error.
func (s *session) answer(e api.Errno, word string, n ...int) {
	if e != api.OK {
		s.print("error", int(e))
		return
	}
	s.print(word, n...)
}

// withManor returns what needs a manor.
func withManor(do func(s *session, m *Manor)) act {
	return func(s *session) {
		if s.manor == nil {
			s.print("none")
			return
		}
		do(s, s.manor)
	}
}

// doing returns a command that prints ok.
func doing(command func(m *Manor) api.Errno) act {
	return withManor(func(s *session, m *Manor) { s.answer(command(m), "ok") })
}

// counting returns a command that prints what it returns.
func counting(command func(m *Manor) (int, api.Errno)) act {
	return withManor(func(s *session, m *Manor) {
		n, e := command(m)
		s.answer(e, "number", n)
	})
}

// readSetup reads a setup, whose numbers stand in a line, and its sources behind that.
func readSetup(src *source, rest string) act {
	n := numbers(exactly(6, rest)...)
	sources := src.take(n[4] + n[5])
	setup := api.Setup{
		Reeves: n[0], Sectors: n[1], House: api.Rate{Misses: n[2], Doubles: n[3]},
		Fell: textOf(sources[:n[4]]), Rules: textOf(sources[n[4]:]),
	}
	return func(s *session) {
		m, e := New(setup)
		if e == api.OK {
			s.manor = m
		}
		s.answer(e, "ok")
	}
}

// textOf returns lines, each with a line feed.
func textOf(lines []string) string {
	var b strings.Builder
	for _, line := range lines {
		b.WriteString(line)
		b.WriteByte('\n')
	}
	return b.String()
}

// reading returns what a line does, of which it is given what is behind its first word.
type reading func(rest string) act

// commands returns what reads lines of more than one word, but for setups.
func commands() map[string]reading {
	return map[string]reading{
		"write": readWrite, "want": readWant, "free": readFree, "fee": readFee, "crash": readCrash,
		"charge": one((*Manor).Charge), "settle": one((*Manor).Settle),
		"pay": paying((*Manor).Pay), "waive": paying((*Manor).Waive),
		"send": two((*Manor).Send), "stop": two((*Manor).Stop),
		"carry": three((*Manor).Carry), "lose": three((*Manor).Lose), "repeat": three((*Manor).Repeat),
		"case": readCase, "roll": readRoll, "holds": readHolds, "balance": readBalance, "backed": readBacked,
	}
}

// questions returns what lines of one word do.
func questions() map[string]act {
	return map[string]act{"entries": withManor((*session).entries), "audit": withManor((*session).audit)}
}

// one returns what reads a command with a number.
func one(command func(m *Manor, a int) (int, api.Errno)) reading {
	return func(rest string) act {
		n := numbers(exactly(1, rest)...)
		return counting(func(m *Manor) (int, api.Errno) { return command(m, n[0]) })
	}
}

// two returns what reads a command with two numbers.
func two(command func(m *Manor, a, b int) api.Errno) reading {
	return func(rest string) act {
		n := numbers(exactly(2, rest)...)
		return doing(func(m *Manor) api.Errno { return command(m, n[0], n[1]) })
	}
}

// three returns what reads a command with three numbers.
func three(command func(m *Manor, a, b, c int) api.Errno) reading {
	return func(rest string) act {
		n := numbers(exactly(3, rest)...)
		return doing(func(m *Manor) api.Errno { return command(m, n[0], n[1], n[2]) })
	}
}

// paying returns what reads a command with a reeve, a posting and an amount.
func paying(command func(m *Manor, reeve int, of api.Ref, amount int) (int, api.Errno)) reading {
	return func(rest string) act {
		n := numbers(exactly(4, rest)...)
		of := api.Ref{Reeve: n[1], Number: n[2]}
		return counting(func(m *Manor) (int, api.Errno) { return command(m, n[0], of, n[3]) })
	}
}

func readFee(rest string) act {
	n := numbers(exactly(4, rest)...)
	return counting(func(m *Manor) (int, api.Errno) { return m.Fee(n[0], n[1], n[2], n[3]) })
}

func readWrite(rest string) act {
	return doing(func(m *Manor) api.Errno { return m.Write(rest) })
}

func readWant(rest string) act {
	w := exactly(3, rest)
	n := numbers(w[0], w[2])
	return counting(func(m *Manor) (int, api.Errno) { return m.Want(n[0], w[1], n[1]) })
}

func readFree(rest string) act {
	w := exactly(2, rest)
	reeve := number(w[0])
	return doing(func(m *Manor) api.Errno { return m.Free(reeve, w[1]) })
}

func readCrash(rest string) act {
	w := wordsOf(rest)
	reeve := number(w[0])
	var keep []int
	for _, word := range w[1:] {
		keep = append(keep, signed(word))
	}
	return doing(func(m *Manor) api.Errno { return m.Crash(reeve, keep) })
}

// signed returns what a word says, which may have a minus sign.
func signed(word string) int {
	digits, isNegative := strings.CutPrefix(word, "-")
	n := number(digits)
	if isNegative {
		need(n != 0, api.ErrForm)
		return -n
	}
	return n
}

func readCase(rest string) act {
	id := number(rest)
	return withManor(func(s *session, m *Manor) { s.print("case", int(Case(m.steward.books, id))) })
}

func readRoll(rest string) act {
	reeve := number(rest)
	return withManor(func(s *session, m *Manor) { s.roll(m, reeve) })
}

func readHolds(rest string) act {
	reeve := number(rest)
	return withManor(func(s *session, m *Manor) {
		l := m.Holds(reeve)
		s.print("holds", len(l))
		for _, x := range l {
			s.print(x.Tag, x.From, x.Until, x.Number)
		}
	})
}

func readBalance(rest string) act {
	n := numbers(exactly(2, rest)...)
	return withManor(func(s *session, m *Manor) {
		_, e := m.reeveAt(n[0])
		balance := 0
		if e == api.OK {
			balance, e = pound.Balance(len(m.reeves), m.Roll(n[0]), n[1])
		}
		s.answer(e, "balance", balance)
	})
}

func readBacked(rest string) act {
	reeve := number(rest)
	return withManor(func(s *session, m *Manor) {
		_, e := m.reeveAt(reeve)
		at := 0
		if e == api.OK {
			at, e = Backed(m.steward.entries, len(m.reeves), m.Roll(reeve))
		}
		s.answer(e, "backed", at)
	})
}

// entries prints the transcript.
func (s *session) entries(m *Manor) {
	l := m.Entries()
	s.print("entries", len(l))
	for _, x := range l {
		text, _ := PutEntry(x)
		s.print("entry", len(text))
		s.print(text)
	}
}

// audit prints whether the transcript is right.
func (s *session) audit(m *Manor) {
	finding := m.Audit()
	ok := 0
	if finding.Ok {
		ok = 1
	}
	s.print("audit", ok, finding.At, int(finding.What))
}

// roll prints the roll of a reeve.
func (s *session) roll(m *Manor, reeve int) {
	l := m.Roll(reeve)
	s.print("roll", len(l))
	for _, p := range l {
		line, _ := pound.Write(len(m.reeves), p)
		s.print(line)
	}
}
