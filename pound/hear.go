package pound

import (
	"slices"

	"couchant/api"
)

// Hear processes a message and returns the answer, if there is one.
func (r *Reeve) Hear(m string, now int) (string, api.Errno) {
	switch {
	case r == nil:
		return "", api.ErrNil
	case !isTick(now):
		return "", api.ErrArg
	}
	var heard message
	if e := attempt(func() { heard = readMessage(r.memory.n, m) }); e != api.OK {
		return "", e
	}
	switch x := heard.(type) {
	case greeting:
		return r.hearGreeting(x), api.OK
	case letter:
		return r.hearLetter(x)
	case ask:
		return r.hearAsk(x, now)
	case give:
		return "", r.hearGive(x, now)
	case free:
		return "", r.hearFree(x)
	}
	return "", api.ErrForm
}

// hearGreeting returns the answer to a greeting.
func (r *Reeve) hearGreeting(theirs greeting) string {
	if lacked := r.memory.beyond(theirs); len(lacked) > 0 {
		return lacked.text()
	}
	own := r.memory.have()
	for reeve, number := range theirs {
		if number > own[reeve] {
			return own.text()
		}
	}
	return ""
}

// hearLetter adds the postings of a letter that are the next ones.
func (r *Reeve) hearLetter(l letter) (string, api.Errno) {
	added, e := r.memory.lacked(l)
	if e != api.OK || len(added) == 0 {
		return "", e
	}
	if e := r.do(added...); e != api.OK {
		return "", e
	}
	return r.memory.have().text(), api.OK
}

// lacked returns the postings of a letter that can be added to the roll, or why the letter cannot be right.
func (m *memory) lacked(l letter) ([]change, api.Errno) {
	var added []change
	longer := *m // with a roll to which postings are added
	for reeve, its := range m.roll {
		longer.roll[reeve] = slices.Clip(its)
	}
	for _, p := range l {
		its := longer.roll[p.Reeve]
		switch {
		case p.Number <= len(its) && its[p.Number-1] == p:
		case p.Number <= len(its) || p.Reeve == m.self:
			return nil, api.ErrState
		case p.Number == len(its)+1:
			if posting(p).refusal(&longer) != api.OK {
				return nil, api.ErrState
			}
			added = append(added, posting(p))
			posting(p).apply(&longer)
		}
	}
	return added, api.OK
}

// hearAsk gives a promise, if it can be given.
func (r *Reeve) hearAsk(x ask, now int) (string, api.Errno) {
	m := &r.memory
	c := promising{ask: x, now: now}
	switch c.refusal(m) {
	case api.ErrState:
		return "", api.ErrState
	case api.ErrHeld:
		return "", api.OK
	}
	if m.promises[x.tag] != m.promised(x) {
		if e := r.do(c); e != api.OK {
			return "", e
		}
	}
	return give{giver: m.self, reeve: x.reeve, number: x.number}.text(), api.OK
}

// hearGive counts that a reeve has given a promise, and impounds the beast if a majority has.
func (r *Reeve) hearGive(x give, now int) api.Errno {
	m := &r.memory
	if x.reeve != m.self || x.giver == m.self {
		return api.ErrState
	}
	if _, is := m.asked(x.number, now); !is {
		return api.OK
	}
	own := &m.requests[x.number-1]
	given := own.given
	given[x.giver] = true
	if given.count()+1 > m.n/2 {
		return r.do(granting{number: x.number, now: now})
	}
	own.given = given
	return api.OK
}

// hearFree takes a promise back that is not needed any more.
func (r *Reeve) hearFree(x free) api.Errno {
	switch c := (dropping{x}); c.refusal(&r.memory) {
	case api.ErrState:
		return api.ErrState
	case api.OK:
		return r.do(c)
	}
	return api.OK
}
