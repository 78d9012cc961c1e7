package fell

import (
	"iter"
	"strconv"

	"couchant/api"
)

// Kinds of arcs of which no reports tell, behind those of reports.
const (
	kindRest = api.ReportVoid + 1 + iota
	kindBegin
	kindEnd
)

// kind is what the arcs of one kind have in common: a word, the names of what they are at, and what each one is by nature.
type kind struct {
	word  string
	names func(api.Fell) []string
	arc   func(n network, at, tick int) api.Arc
}

// kinds returns the kinds of reports and of arcs.
func kinds() [kindEnd + 1]kind {
	return [kindEnd + 1]kind{
		api.ReportStay:   {"stay", placeNames, network.number},
		api.ReportPass:   {"pass", gateNames, network.passing},
		api.ReportBack:   {"back", gateNames, network.passingBack},
		api.ReportBorn:   {"born", placeNames, network.coming},
		api.ReportDead:   {"dead", placeNames, network.going},
		api.ReportBought: {"bought", placeNames, network.coming},
		api.ReportSold:   {"sold", placeNames, network.going},
		api.ReportVoid:   {word: "void"},
		kindRest:         {"rest", placeNames, network.staying},
		kindBegin:        {"begin", placeNames, network.beginning},
		kindEnd:          {"end", placeNames, network.ending},
	}
}

// kindOf returns the kind of arcs that has a word, 0 if none has.
func kindOf(word string) uint8 {
	for i, k := range kinds() {
		if k.arc != nil && k.word == word {
			return uint8(i)
		}
	}
	return 0
}

// spot says which arc one is: its kind, the index of its place or gate, and its tick or step.
type spot struct {
	kind     uint8
	at, tick int
}

// spotOf returns that of the arc whose number a report tells.
func spotOf(x api.Report) spot { return spot{x.Kind, x.At, x.Tick} }

// outside is the node of what is at no place.
const outside = 0

// network is that of a valid fell.
type network api.Fell

func (n network) arriving(place, tick int) int { return 1 + 2*(tick*len(n.Places)+place) }

func (n network) leaving(place, tick int) int { return n.arriving(place, tick) + 1 }

func (n network) nodes() int { return n.arriving(0, n.Ticks+1) }

func (n network) number(place, tick int) api.Arc {
	return api.Arc{From: n.arriving(place, tick), To: n.leaving(place, tick), High: api.MaxHerd}
}

func (n network) staying(place, step int) api.Arc {
	return api.Arc{From: n.leaving(place, step), To: n.arriving(place, step+1), High: api.MaxHerd}
}

func (n network) coming(place, step int) api.Arc {
	return api.Arc{From: outside, To: n.arriving(place, step+1), High: n.Yield}
}

func (n network) going(place, step int) api.Arc {
	return api.Arc{From: n.leaving(place, step), To: outside, High: n.Yield}
}

func (n network) passing(gate, step int) api.Arc {
	g := n.Gates[gate]
	return api.Arc{From: n.leaving(g.A, step), To: n.arriving(g.B, step+1), High: g.Most}
}

func (n network) passingBack(gate, step int) api.Arc {
	g := n.Gates[gate]
	return api.Arc{From: n.leaving(g.B, step), To: n.arriving(g.A, step+1), High: g.Most}
}

func (n network) beginning(place, tick int) api.Arc {
	return api.Arc{From: outside, To: n.arriving(place, tick), High: api.MaxHerd}
}

func (n network) ending(place, tick int) api.Arc {
	return api.Arc{From: n.leaving(place, tick), To: outside, High: api.MaxHerd}
}

// spots yields those of all arcs, in their order.
func (n network) spots() iter.Seq2[int, spot] {
	return func(yield func(int, spot) bool) {
		arc := 0
		each := func(tick, size int, kinds ...uint8) bool {
			for at := range size {
				for _, kind := range kinds {
					if !yield(arc, spot{kind, at, tick}) {
						return false
					}
					arc++
				}
			}
			return true
		}
		places, gates := len(n.Places), len(n.Gates)
		for tick := range n.Ticks + 1 {
			if !each(tick, places, api.ReportStay) {
				return
			}
		}
		for step := range n.Ticks {
			if !each(step, places, kindRest, api.ReportBorn, api.ReportDead, api.ReportBought, api.ReportSold) ||
				!each(step, gates, api.ReportPass, api.ReportBack) {
				return
			}
		}
		_ = each(0, places, kindBegin) && each(n.Ticks, places, kindEnd)
	}
}

// size returns how many arcs there are.
func (n network) size() int {
	size := 0
	for range n.spots() {
		size++
	}
	return size
}

// indexOf returns the index of an arc that there is.
func (n network) indexOf(s spot) int {
	for i, other := range n.spots() {
		if other == s {
			return i
		}
	}
	return 0
}

// narrowed returns the net, in which reports tell of some arcs.
func (n network) narrowed(told map[spot][]api.Report) api.Net {
	net := api.Net{N: n.nodes()}
	kinds := kinds()
	for _, s := range n.spots() {
		arc := kinds[s.kind].arc(n, s.at, s.tick)
		for _, x := range told[s] {
			arc = narrow(arc, x)
		}
		net.Arcs = append(net.Arcs, arc)
	}
	return net
}

// narrow returns an arc by a report more that tells of it.
func narrow(arc api.Arc, x api.Report) api.Arc {
	if x.Low > arc.Low {
		arc.Low, arc.LowBy = x.Low, x.Id
	}
	if x.High < arc.High {
		arc.High, arc.HighBy = x.High, x.Id
	}
	return arc
}

// Nodes returns how many nodes the networks of a fell have.
func Nodes(f api.Fell) int {
	if CheckFell(f) != api.OK {
		return 0
	}
	return network(f).nodes()
}

// Arcs returns how many arcs the networks of a fell have.
func Arcs(f api.Fell) int {
	if CheckFell(f) != api.OK {
		return 0
	}
	return network(f).size()
}

// checkTick returns why a fell is not valid, or a number is none of a tick.
func checkTick(f api.Fell, tick int) api.Errno {
	if e := CheckFell(f); e != api.OK {
		return e
	}
	if !isTick(f, tick) {
		return api.ErrArg
	}
	return api.OK
}

// NumberArc returns the index of the arc of the number at a place at a tick.
func NumberArc(f api.Fell, place, tick int) (int, api.Errno) {
	if e := checkTick(f, tick); e != api.OK {
		return 0, e
	}
	if !isPlace(f, place) {
		return 0, api.ErrPlace
	}
	return network(f).indexOf(spot{api.ReportStay, place, tick}), api.OK
}

// MoveArc returns the index of the arc whose number a report tells.
func MoveArc(f api.Fell, x api.Report) (int, api.Errno) {
	if e := CheckReport(f, x); e != api.OK {
		return 0, e
	}
	if x.Kind == api.ReportVoid {
		return 0, api.ErrArg
	}
	return network(f).indexOf(spotOf(x)), api.OK
}

// NameArc returns the words of an arc.
func NameArc(f api.Fell, arc int) (string, api.Errno) {
	if e := CheckFell(f); e != api.OK {
		return "", e
	}
	for i, s := range network(f).spots() {
		if i == arc {
			return nameOf(f, s), api.OK
		}
	}
	return "", api.ErrArg
}

// nameOf returns the words of the arc at a spot.
func nameOf(f api.Fell, s spot) string {
	k := kinds()[s.kind]
	words := join(k.word, k.names(f)[s.at])
	if s.kind == kindBegin || s.kind == kindEnd {
		return words
	}
	return join(words, strconv.Itoa(s.tick))
}

// Nature returns the network without reports.
func Nature(f api.Fell) (api.Net, api.Errno) {
	if e := CheckFell(f); e != api.OK {
		return api.Net{}, e
	}
	return network(f).narrowed(nil), api.OK
}

// NetOf returns the network of an owner and a sort, narrowed by the reports that count.
func NetOf(f api.Fell, l []api.Report, known, owner int, sort string) (api.Net, api.Errno) {
	if e := checkLog(f, l); e != api.OK {
		return api.Net{}, e
	}
	if !isOwner(owner) || !isName(sort) {
		return api.Net{}, api.ErrArg
	}
	told := map[spot][]api.Report{}
	for x := range counting(l, known) {
		if x.Owner == owner && x.Sort == sort {
			told[spotOf(x)] = append(told[spotOf(x)], x)
		}
	}
	return network(f).narrowed(told), api.OK
}
