package fell

import (
	"slices"
	"strconv"
	"strings"

	"couchant/api"
)

// Write returns the line of a report.
func Write(f api.Fell, x api.Report) (string, api.Errno) {
	if e := CheckReport(f, x); e != api.OK {
		return "", e
	}
	k := kinds()[x.Kind]
	line := join(strconv.Itoa(x.Id), strconv.Itoa(x.Known), k.word)
	if x.Kind == api.ReportVoid {
		return join(line, strconv.Itoa(x.Of)), api.OK
	}
	return join(line, strconv.Itoa(x.Owner), x.Sort, k.names(f)[x.At],
		strconv.Itoa(x.Tick), strconv.Itoa(x.Low), strconv.Itoa(x.High)), api.OK
}

// Read returns the right report with a line.
func Read(f api.Fell, line string) (api.Report, api.Errno) {
	if e := CheckFell(f); e != api.OK {
		return api.Report{}, e
	}
	x := parse(f, strings.Split(line, " "))
	// Writing it again finds whatever parse lets pass: signs, leading zeros, words that are no numbers, other words of arcs.
	if again, e := Write(f, x); e != api.OK || again != line {
		return api.Report{}, api.ErrForm
	}
	return x, api.OK
}

// parse returns the only report that words can be of.
func parse(f api.Fell, words []string) api.Report {
	at := func(i int) int {
		n, _ := strconv.Atoi(words[i])
		return n
	}
	switch len(words) {
	case 4:
		return api.Report{Id: at(0), Known: at(1), Kind: api.ReportVoid, Of: at(3)}
	case 9:
		kind := kindOf(words[2])
		if kind == 0 {
			break
		}
		return api.Report{Id: at(0), Known: at(1), Kind: kind, Owner: at(3), Sort: words[4],
			At: slices.Index(kinds()[kind].names(f), words[5]), Tick: at(6), Low: at(7), High: at(8)}
	}
	return api.Report{}
}
