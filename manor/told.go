package manor

import (
	"strings"

	"couchant/api"
	"couchant/bound"
	"couchant/tally"
)

// endsOf returns what a count says, by the books on its day.
func endsOf(b api.Books, c api.Count) (low, high int) {
	rate := must(tally.RateOf(b.House, b.Recounts, c.Shepherd, c.Day))
	fits := must(tally.OfCount(rate, c))
	need(fits.Low <= api.MaxHerd, api.ErrLimit)
	return fits.Low, min(fits.High, api.MaxHerd)
}

// toldOf returns the Body that tells the ends of a figure, and on which reports they rest, by the books on a day.
func toldOf(b api.Books, x api.Figure, day int) string {
	low, high, e := bound.Ends(b.Fell, b.Reports, day, x)
	need(e == api.OK, e)
	lower := must(bound.Lineage(b.Fell, b.Reports, day, x, false))
	upper := must(bound.Lineage(b.Fell, b.Reports, day, x, true))
	ends := behind(behind("bound", x.Owner)+" "+x.Sort, x.Tick, low, high)
	return ends + behind(" lower", lower...) + behind(" upper", upper...)
}

// figureOf returns the figure of which the Body of an entry tells something.
func figureOf(body string) api.Figure {
	w := strings.SplitN(body, " ", 5)
	need(len(w) >= 4 && w[0] == "bound" && w[2] != "", api.FindForm)
	owner, isOwner := numberOf(w[1])
	tick, isTick := numberOf(w[3])
	need(isOwner && isTick, api.FindForm)
	return onFell(owner, w[2], tick)
}

// cutCount returns the line of the report of a Body, and what was counted.
func cutCount(body string) (string, api.Count) {
	w := strings.Split(body, " ")
	at := len(w) - 4
	need(at >= 0 && w[at] == "by", api.FindForm)
	var n [3]int
	for i, word := range w[at+1:] {
		number, is := numberOf(word)
		need(is, api.FindForm)
		n[i] = number
	}
	return strings.Join(w[:at], " "), api.Count{Shepherd: n[0], Number: n[1], Worn: n[2]}
}
