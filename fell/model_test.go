package fell_test

import (
	"fmt"
	"regexp"
	"strconv"
	"strings"

	"couchant/api"
)

var (
	nameForm   = regexp.MustCompile(`\A[a-z][a-z0-9-]{0,23}\z`)
	fellForm   = regexp.MustCompile(`\Afell (0|[1-9][0-9]{0,5}) (0|[1-9][0-9]{0,5})\z`)
	placeForm  = regexp.MustCompile(`\A(heaf|fold) ([a-z][a-z0-9-]{0,23})\z`)
	gateForm   = regexp.MustCompile(`\Agate ([a-z][a-z0-9-]{0,23}) ([a-z][a-z0-9-]{0,23}) ([a-z][a-z0-9-]{0,23}) (0|[1-9][0-9]{0,5})\z`)
	reportWord = [...]string{1: "stay", 2: "pass", 3: "back", 4: "born", 5: "dead", 6: "bought", 7: "sold", 8: "void"}
)

// fellError returns what CheckFell has to, in the chapter's words: every error that a fell has, and then the first one of the row.
func fellError(f api.Fell) api.Errno {
	has := map[api.Errno]bool{
		api.ErrLimit: len(f.Places) > 8 || len(f.Gates) > 12 || f.Ticks > 24,
		api.ErrNone:  len(f.Places) == 0 || f.Ticks < 1,
		api.ErrArg:   f.Yield < 0 || f.Yield > 1000,
	}
	seen := map[string]int{}
	for _, p := range f.Places {
		has[api.ErrForm] = has[api.ErrForm] || !nameForm.MatchString(p.Name)
		seen["place "+p.Name]++
		has[api.ErrArg] = has[api.ErrArg] || p.Kind < 1 || p.Kind > 2
	}
	for _, g := range f.Gates {
		has[api.ErrForm] = has[api.ErrForm] || !nameForm.MatchString(g.Name)
		seen["gate "+g.Name]++
		has[api.ErrArg] = has[api.ErrArg] || g.Most < 0 || g.Most > 1000
		for _, end := range []int{g.A, g.B} {
			has[api.ErrPlace] = has[api.ErrPlace] || end < 0 || end >= len(f.Places)
		}
		has[api.ErrPlace] = has[api.ErrPlace] || g.A == g.B
	}
	for _, times := range seen {
		has[api.ErrTwice] = has[api.ErrTwice] || times > 1
	}
	for _, e := range []api.Errno{api.ErrLimit, api.ErrNone, api.ErrForm, api.ErrTwice, api.ErrArg, api.ErrPlace} {
		if has[e] {
			return e
		}
	}
	return api.OK
}

// modelParse returns what ParseFell has to.
func modelParse(src string) (api.Fell, api.Fault) {
	if len(src) > 20000 {
		return api.Fell{}, api.Fault{Err: api.ErrLimit}
	}
	var f api.Fell
	begun := false
	places := map[string]int{}
	number := func(s string) int {
		n, _ := strconv.Atoi(s)
		return n
	}
	for at := 1; src != ""; at++ {
		line, rest, _ := strings.Cut(src, "\n")
		src = rest
		begin, place, gate := fellForm.FindStringSubmatch(line), placeForm.FindStringSubmatch(line), gateForm.FindStringSubmatch(line)
		switch {
		case line == "" || strings.HasPrefix(line, "#"):
		case begin != nil && !begun:
			begun = true
			f.Ticks, f.Yield = number(begin[1]), number(begin[2])
		case place != nil && begun:
			if _, twice := places[place[2]]; !twice {
				places[place[2]] = len(f.Places)
			}
			f.Places = append(f.Places, api.Place{Name: place[2], Kind: map[string]uint8{"heaf": 1, "fold": 2}[place[1]]})
		case gate != nil && begun:
			a, is := places[gate[2]]
			b, isToo := places[gate[3]]
			if !is || !isToo {
				return api.Fell{}, api.Fault{Err: api.ErrPlace, Line: at}
			}
			f.Gates = append(f.Gates, api.Gate{Name: gate[1], A: a, B: b, Most: number(gate[4])})
		default:
			return api.Fell{}, api.Fault{Err: api.ErrForm, Line: at}
		}
	}
	if e := fellError(f); e != api.OK {
		return api.Fell{}, api.Fault{Err: e}
	}
	return f, api.Fault{}
}

// distances returns the least numbers of gates between all places, -1 where none lead.
func distances(f api.Fell) [][]int {
	const far = 1000
	var d [][]int
	for i := range f.Places {
		d = append(d, make([]int, len(f.Places)))
		for j := range f.Places {
			if i != j {
				d[i][j] = far
			}
		}
	}
	for _, g := range f.Gates {
		d[g.A][g.B], d[g.B][g.A] = 1, 1
	}
	for k := range d {
		for i := range d {
			for j := range d {
				d[i][j] = min(d[i][j], d[i][k]+d[k][j])
			}
		}
	}
	for i := range d {
		for j := range d {
			if d[i][j] >= far {
				d[i][j] = -1
			}
		}
	}
	return d
}

func isOfGate(kind uint8) bool { return kind == api.ReportPass || kind == api.ReportBack }

// namesFor returns the names of the places, or of the gates, that reports of a kind speak of.
func namesFor(f api.Fell, kind uint8) []string {
	var names []string
	if isOfGate(kind) {
		for _, g := range f.Gates {
			names = append(names, g.Name)
		}
		return names
	}
	for _, p := range f.Places {
		names = append(names, p.Name)
	}
	return names
}

// lastTick returns the last tick, or step, that reports of a kind can have.
func lastTick(f api.Fell, kind uint8) int {
	if kind == api.ReportStay {
		return f.Ticks
	}
	return f.Ticks - 1
}

// reportError returns what CheckReport has to, of a valid fell.
func reportError(f api.Fell, x api.Report) api.Errno {
	out := func(n, low, high int) bool { return n < low || n > high }
	if out(x.Id, 1, 1000000) || out(x.Known, 0, 100000) || x.Kind < 1 || x.Kind > 8 {
		return api.ErrArg
	}
	if x.Kind == api.ReportVoid {
		if out(x.Of, 1, 1000000) || x.Owner != 0 || x.Sort != "" || x.At != 0 || x.Tick != 0 || x.Low != 0 || x.High != 0 {
			return api.ErrArg
		}
		return api.OK
	}
	if out(x.Owner, 1, 40) || !nameForm.MatchString(x.Sort) || x.Low < 0 || x.Low > x.High || x.High > 1000 || x.Of != 0 || out(x.Tick, 0, lastTick(f, x.Kind)) {
		return api.ErrArg
	}
	if out(x.At, 0, len(namesFor(f, x.Kind))-1) {
		return api.ErrPlace
	}
	return api.OK
}

// logError returns what Check has to, of a valid fell.
func logError(f api.Fell, l []api.Report) (int, api.Errno) {
	kindOf, named := map[int]uint8{}, map[int]bool{}
	known := 0
	for i, x := range l {
		if i >= 300 {
			return i, api.ErrLimit
		}
		if e := reportError(f, x); e != api.OK {
			return i, e
		}
		if kindOf[x.Id] != 0 {
			return i, api.ErrTwice
		}
		if x.Known < known {
			return i, api.ErrTime
		}
		if x.Kind == api.ReportVoid {
			if kindOf[x.Of] == 0 || kindOf[x.Of] == api.ReportVoid {
				return i, api.ErrNone
			}
			if named[x.Of] {
				return i, api.ErrTwice
			}
			named[x.Of] = true
		}
		kindOf[x.Id], known = x.Kind, x.Known
	}
	return 0, api.OK
}

// countingOf returns the reports of a log that count on a day, without voids.
func countingOf(l []api.Report, known int) []api.Report {
	var counting []api.Report
	for _, x := range l {
		counts := x.Kind != api.ReportVoid && x.Known <= known
		for _, y := range l {
			if y.Kind == api.ReportVoid && y.Known <= known && y.Of == x.Id {
				counts = false
			}
		}
		if counts {
			counting = append(counting, x)
		}
	}
	return counting
}

// writtenLine returns the line of a right report.
func writtenLine(f api.Fell, x api.Report) string {
	if x.Kind == api.ReportVoid {
		return fmt.Sprintf("%d %d void %d", x.Id, x.Known, x.Of)
	}
	return fmt.Sprintf("%d %d %s %d %s %s %d %d %d", x.Id, x.Known, reportWord[x.Kind], x.Owner, x.Sort, namesFor(f, x.Kind)[x.At], x.Tick, x.Low, x.High)
}

// modelArc is an arc by nature, and its words.
type modelArc struct {
	name           string
	from, to, high int
}

// modelArcs returns the arcs of a fell, in the chapter's words; the nodes are numbered one after the other.
func modelArcs(f api.Fell) []modelArc {
	arriving, leaving := make([][]int, f.Ticks+1), make([][]int, f.Ticks+1)
	node := 1
	for tick := range f.Ticks + 1 {
		for range f.Places {
			arriving[tick], leaving[tick] = append(arriving[tick], node), append(leaving[tick], node+1)
			node += 2
		}
	}
	var arcs []modelArc
	add := func(from, to, high int, name string, tick ...int) {
		if len(tick) > 0 {
			name = fmt.Sprintf("%s %d", name, tick[0])
		}
		arcs = append(arcs, modelArc{name, from, to, high})
	}
	for tick := 0; tick <= f.Ticks; tick++ {
		for p, place := range f.Places {
			add(arriving[tick][p], leaving[tick][p], 1000, "stay "+place.Name, tick)
		}
	}
	for step := 0; step < f.Ticks; step++ {
		before, after := leaving[step], arriving[step+1]
		for p, place := range f.Places {
			add(before[p], after[p], 1000, "rest "+place.Name, step)
			add(0, after[p], f.Yield, "born "+place.Name, step)
			add(before[p], 0, f.Yield, "dead "+place.Name, step)
			add(0, after[p], f.Yield, "bought "+place.Name, step)
			add(before[p], 0, f.Yield, "sold "+place.Name, step)
		}
		for _, gate := range f.Gates {
			add(before[gate.A], after[gate.B], gate.Most, "pass "+gate.Name, step)
			add(before[gate.B], after[gate.A], gate.Most, "back "+gate.Name, step)
		}
	}
	for p, place := range f.Places {
		add(0, arriving[0][p], 1000, "begin "+place.Name)
	}
	for p, place := range f.Places {
		add(leaving[f.Ticks][p], 0, 1000, "end "+place.Name)
	}
	return arcs
}

// arcOf returns the index of the arc that a report tells of.
func arcOf(f api.Fell, x api.Report) int {
	name := fmt.Sprintf("%s %s %d", reportWord[x.Kind], namesFor(f, x.Kind)[x.At], x.Tick)
	for i, arc := range modelArcs(f) {
		if arc.name == name {
			return i
		}
	}
	return -1
}

// modelNet returns the network that NetOf has to: the ends of all reports at once, and the first one that has each.
func modelNet(f api.Fell, l []api.Report, known, owner int, sort string) api.Net {
	net := api.Net{N: 1 + 2*(f.Ticks+1)*len(f.Places)}
	telling := map[int][]api.Report{}
	for _, x := range countingOf(l, known) {
		if x.Owner == owner && x.Sort == sort {
			telling[arcOf(f, x)] = append(telling[arcOf(f, x)], x)
		}
	}
	for i, arc := range modelArcs(f) {
		a := api.Arc{From: arc.from, To: arc.to, High: arc.high}
		for _, x := range telling[i] {
			a.Low, a.High = max(a.Low, x.Low), min(a.High, x.High)
		}
		for _, x := range telling[i] {
			if a.LowBy == 0 && a.Low > 0 && x.Low == a.Low {
				a.LowBy = x.Id
			}
			if a.HighBy == 0 && a.High < arc.high && x.High == a.High {
				a.HighBy = x.Id
			}
		}
		net.Arcs = append(net.Arcs, a)
	}
	return net
}
