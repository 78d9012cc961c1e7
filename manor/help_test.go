package manor_test

import (
	"fmt"
	"math/rand/v2"
	"slices"
	"strings"
	"testing"

	"couchant/api"
	"couchant/manor"
)

func mustOK(t testing.TB, what string, e api.Errno) {
	t.Helper()
	if e != api.OK {
		t.Fatalf("%s: error %d", what, e)
	}
}

func random(seed uint64) *rand.Rand { return rand.New(rand.NewPCG(seed, 31)) }

// pick returns one of the items.
func pick[T any](r *rand.Rand, items ...T) T { return items[r.IntN(len(items))] }

// The sources of S of the chapter.
const (
	fellS  = "fell 2 50\nheaf high\nheaf low\nfold yard\ngate gap high low 20\ngate lane low yard 1000\n"
	rulesS = "fine over when use > stints pays 12 * max(0, use - stints)\n"
)

// setupS returns the setup S of the chapter, with three reeves.
func setupS() api.Setup {
	return api.Setup{Reeves: 3, Sectors: 4000, Fell: fellS, Rules: rulesS}
}

// transcript returns the entries of S and of texts, all of which have to be taken.
func transcript(t testing.TB, texts ...string) []api.Entry {
	t.Helper()
	return transcriptOf(t, setupS(), texts...)
}

func transcriptOf(t testing.TB, s api.Setup, texts ...string) []api.Entry {
	t.Helper()
	l, answers, e := manor.Process(s, texts)
	mustOK(t, "Process", e)
	for i, e := range answers {
		mustOK(t, texts[i], e)
	}
	return l
}

// booksOf returns the books of S and of texts, all of which have to be taken.
func booksOf(t testing.TB, texts ...string) api.Books {
	t.Helper()
	return manor.Told(transcript(t, texts...))
}

// bodies returns the Bodies of entries.
func bodies(l []api.Entry) []string {
	var bodies []string
	for _, x := range l {
		bodies = append(bodies, x.Body)
	}
	return bodies
}

// relinked returns entries with the Seq and Prev that link them.
func relinked(l []api.Entry) []api.Entry {
	l = slices.Clone(l)
	var prev api.Hash
	for i := range l {
		l[i].Seq, l[i].Prev = i, prev
		prev = manor.Digest(l[i])
	}
	return l
}

// with returns entries and, linked behind them, one more.
func with(t testing.TB, l []api.Entry, day int, kind uint8, body string) []api.Entry {
	t.Helper()
	x, e := manor.Next(l, day, kind, body)
	mustOK(t, "Next", e)
	return append(slices.Clone(l), x)
}

// answersTo lets a manor process papers, one after the other, and asks for their errors.
func answersTo(t testing.TB, m *manor.Manor, papers ...any) {
	t.Helper()
	for i := 0; i < len(papers); i += 2 {
		if e := m.Write(papers[i].(string)); e != papers[i+1].(api.Errno) {
			t.Errorf("Write(%q): error %d, want %d", papers[i], e, papers[i+1])
		}
	}
}

// newManor returns a manor of S.
func newManor(t testing.TB, reeves int) *manor.Manor {
	t.Helper()
	s := setupS()
	s.Reeves = reeves
	m, e := manor.New(s)
	mustOK(t, "New", e)
	return m
}

// stateOf returns all that can be asked of a manor.
func stateOf(m *manor.Manor) string {
	var b strings.Builder
	fmt.Fprintln(&b, m.Today(), m.Entries(), m.Books(), m.Audit())
	for i := range api.MaxReeves {
		fmt.Fprintln(&b, m.Roll(i), m.Holds(i), m.Promises(i))
	}
	return b.String()
}

// setups returns a setup with a small fell, some rules and a rate.
func setups(r *rand.Rand) api.Setup {
	s := setupS()
	s.Reeves, s.Sectors = pick(r, 3, 5), 1000
	s.House = pick(r, api.Rate{}, api.Rate{Misses: 20}, api.Rate{Misses: 100, Doubles: 30})
	s.Fell = pick(r, fellS, "fell 3 0\nheaf high\nfold yard\ngate lane high yard 30\n", "fell 1 5\nfold yard\nheaf high\nheaf low\n")
	s.Rules = pick(r, rulesS, rulesS+"fine late when tick >= 1 and cow > 0 pays 5/2\nseize when use > 2 * stints\n", "fine over when sheep > 3 pays 1000 * sheep * sheep\n")
	return s
}

// recordPaper returns a text about what is not the court's, which often is taken.
func recordPaper(r *rand.Rand) string {
	owner, sort, place := pick(r, 7, 7, 7, 8), pick(r, "sheep", "sheep", "cow"), pick(r, "high", "high", "low", "yard")
	tick, shepherd, low := pick(r, 0, 1, 1, 2), pick(r, 3, 3, 3, 4, 4, 4, 41), r.IntN(12)
	switch r.IntN(14) {
	case 1:
		return fmt.Sprintf("table equal %s %d %d %d", sort, r.IntN(3), 1+r.IntN(3), 4)
	case 2:
		return pick(r, "table void", "deed void", "deed 0 redeem", "report void", "report void") + fmt.Sprint(" ", 1+r.IntN(6))
	case 3:
		return fmt.Sprintf("deed %d enter %d %d", r.IntN(3), owner, pick(r, 2520, 5040, 10080))
	case 4:
		return fmt.Sprintf("deed %d lease %d %d %d %d", r.IntN(3), owner, pick(r, 7, 8, 9), 1+r.IntN(6000), 10)
	case 5:
		return fmt.Sprintf("recount %d %d 100 %d", r.IntN(9), shepherd, pick(r, 100, 95, 98, 104))
	case 6, 7:
		return fmt.Sprintf("report stay %d %s %s %d %d %d", owner, sort, place, tick, low, low+pick(r, 0, 0, 5, 40))
	case 8:
		return fmt.Sprintf("report %s %d %s %s %d %d %d", pick(r, "born", "dead", "bought", "sold", "pass"), owner, sort, pick(r, place, "lane", "gap"), tick, 0, r.IntN(40))
	case 9, 10:
		return fmt.Sprintf("count %s %d %s %s %d %d %d %d", pick(r, "stay", "stay", "stay", "pass", "born"), owner, sort, place, tick, shepherd, low, pick(r, 0, 5, 60))
	case 11, 12:
		return fmt.Sprintf("bound %d %s %d", owner, sort, tick)
	}
	return pick(r, "note ", "note a fair day", "note  two blanks", "nonsense")
}

// season is papers that a manor is told, and how far each case is.
type season struct {
	r     *rand.Rand
	m     *manor.Manor
	steps int
	cases []int
	last  map[int]string
	texts []string
}

func newSeason(t testing.TB, r *rand.Rand, s api.Setup) *season {
	t.Helper()
	m, e := manor.New(s)
	mustOK(t, "New", e)
	return &season{r: r, m: m, last: map[int]string{}}
}

// courtPaper returns a text about a case, which often is taken.
func (s *season) courtPaper() string {
	if len(s.cases) == 0 || s.r.IntN(8) == 0 {
		return fmt.Sprintf("step complain %d %d %s", pick(s.r, 7, 7, 8), s.r.IntN(3), pick(s.r, "over", "over", "late"))
	}
	id := pick(s.r, s.cases...)
	word := map[string]string{"complain": "summon", "summon": "reply", "reply": "view", "view": "judge", "reopen": "judge", "judge": "reopen"}[s.last[id]]
	if s.r.IntN(4) == 0 {
		word = pick(s.r, "summon", "reply", "view", "reopen", "judge", "judge")
	}
	if word == "judge" && s.r.IntN(6) > 0 {
		return fmt.Sprint("judge ", id)
	}
	if word == "judge" {
		return fmt.Sprint("step judge ", id, pick(s.r, " none", " open", " sure 12", " sure 0"))
	}
	return fmt.Sprintf("step %s %d", word, id)
}

// write writes a text, and returns the error.
func (s *season) write() api.Errno {
	text := recordPaper(s.r)
	switch k := s.r.IntN(20); {
	case k < 9:
		text = s.courtPaper()
	case k < 10:
		text = fmt.Sprint("day ", s.m.Today()+pick(s.r, 0, 1, 3, 25, -1))
	}
	e := s.m.Write(text)
	s.texts = append(s.texts, text)
	w := strings.Fields(text)
	if e == api.OK && (w[0] == "step" || w[0] == "judge") {
		s.steps++
		if w[1] == "complain" {
			s.cases = append(s.cases, s.steps)
			s.last[s.steps] = w[1]
		} else if of, word := w[len(w)-1], w[len(w)-2]; w[0] == "judge" || word != "judge" && w[1] != "judge" {
			id := 0
			fmt.Sscan(of, &id)
			s.last[id] = map[bool]string{true: "judge", false: w[1]}[w[0] == "judge"]
		}
	}
	return e
}

// papers returns texts for a setup.
func papers(t testing.TB, r *rand.Rand, s api.Setup, n int) []string {
	t.Helper()
	w := newSeason(t, r, s)
	for range n {
		w.write()
	}
	return w.texts
}
