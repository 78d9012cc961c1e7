package pound

import (
	"cmp"
	"maps"
	"slices"

	"couchant/api"
)

// memory is what one of n reeves keeps on its disk.
type memory struct {
	self, n  int
	requests []request
	letGo    map[string]bool // the beasts that were freed since the last request for them
	promises map[string]api.Promise
	holds    []api.Hold
	roll     roll
}

// request is one of the own ones: that with the Number k has the index k - 1.
type request struct {
	api.Request
	open  bool
	given givers // not on the disk
}

// givers are the reeves that have given a promise.
type givers [api.MaxReeves]bool

// count returns how many they are.
func (g givers) count() int {
	count := 0
	for _, has := range g {
		if has {
			count++
		}
	}
	return count
}

func newMemory(self, n int) memory {
	return memory{self: self, n: n, letGo: map[string]bool{}, promises: map[string]api.Promise{}}
}

// asked returns the open request with a number whose Until is at least now, and whether there is one.
func (m *memory) asked(number, now int) (api.Request, bool) {
	if !within(number, 1, len(m.requests)) {
		return api.Request{}, false
	}
	x := m.requests[number-1]
	return x.Request, x.open && x.Until >= now
}

// last returns the last request for a beast.
func (m *memory) last(tag string) api.Request {
	for _, x := range slices.Backward(m.requests) {
		if x.Tag == tag {
			return x.Request
		}
	}
	return api.Request{}
}

// closeFor makes the requests for a beast no longer open.
func (m *memory) closeFor(tag string) {
	for i, x := range m.requests {
		m.requests[i].open = x.open && x.Tag != tag
	}
}

// asks tells whether there is an open request for a beast.
func (m *memory) asks(tag string) bool {
	return slices.ContainsFunc(m.requests, func(x request) bool { return x.open && x.Tag == tag })
}

// isInForce tells whether a hold is in force.
func isInForce(h api.Hold, now int) bool { return within(now, h.From, h.Until) }

// holdsNow tells whether the reeve has impounded a beast.
func (m *memory) holdsNow(tag string, now int) bool {
	return slices.ContainsFunc(m.holds, func(h api.Hold) bool { return h.Tag == tag && isInForce(h, now) })
}

// isAnothers tells whether the own promise for a beast is in force and not to a reeve.
func (m *memory) isAnothers(tag string, reeve, now int) bool {
	p, is := m.promises[tag]
	return is && p.Until >= now && p.To != reeve
}

// promised returns what the own promise for a beast becomes if it is given to a reeve. One that is in force is to this reeve already, and one that is over has no greater Until than what is asked for.
func (m *memory) promised(x ask) api.Promise {
	return api.Promise{Tag: x.tag, To: x.reeve, Number: x.number, Until: max(x.until, m.promises[x.tag].Until)}
}

// inForce returns the own promises that are in force, in the order of their Tags.
func (m *memory) inForce(now int) []api.Promise {
	var l []api.Promise
	for _, tag := range slices.Sorted(maps.Keys(m.promises)) {
		if p := m.promises[tag]; p.Until >= now {
			l = append(l, p)
		}
	}
	return l
}

// holding returns the own holds that are in force, in the order of their Tags and Numbers.
func (m *memory) holding(now int) []api.Hold {
	var l []api.Hold
	for _, h := range m.holds {
		if isInForce(h, now) {
			l = append(l, h)
		}
	}
	slices.SortFunc(l, func(a, b api.Hold) int {
		return cmp.Or(cmp.Compare(a.Tag, b.Tag), cmp.Compare(a.Number, b.Number))
	})
	return l
}

// have returns how many postings of each reeve there are.
func (m *memory) have() greeting {
	var l greeting
	for _, its := range m.roll[:m.n] {
		l = append(l, len(its))
	}
	return l
}

// beyond returns the first postings that somebody with such a greeting lacks, as many as a letter has at most.
func (m *memory) beyond(has greeting) letter {
	var l letter
	for reeve, number := range has {
		its := m.roll[reeve]
		l = append(l, its[min(number, len(its)):]...)
	}
	return l[:min(len(l), api.MaxLetter)]
}
