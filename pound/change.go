package pound

import "couchant/api"

// change is something durable that an operation does.
type change interface {
	// line returns what stands in the journal for it.
	line() string
	// refusal returns why it cannot be done.
	refusal(m *memory) api.Errno
	// apply does it.
	apply(m *memory)
}

// wanting is that the reeve makes a request.
type wanting struct {
	tag        string
	until, now int
}

// freeing is that the reeve lets a beast go.
type freeing struct {
	tag string
	now int
}

// promising is that the reeve gives another one the promise for which that one asked.
type promising struct {
	ask
	now int
}

// granting is that a majority has promised the reeve a beast, by its request with a number.
type granting struct{ number, now int }

// dropping is that the reeve takes a promise back that is not needed any more.
type dropping struct{ free }

// posting is that a posting is added to the roll.
type posting api.Posting

func (c wanting) line() string { return "want " + c.tag + numbers(c.until, c.now) }

func (c wanting) refusal(m *memory) api.Errno {
	switch {
	case !isTick(c.now) || !isTag(c.tag) || !within(c.until, c.now, api.MaxDay):
		return api.ErrArg
	case m.isAnothers(c.tag, m.self, c.now):
		return api.ErrHeld
	case len(m.requests) == api.MaxRequests:
		return api.ErrLimit
	}
	return api.OK
}

func (c wanting) apply(m *memory) {
	x := api.Request{Number: len(m.requests) + 1, Tag: c.tag, Until: c.until}
	m.closeFor(c.tag)
	m.requests = append(m.requests, request{Request: x, open: true})
	delete(m.letGo, c.tag)
	m.promises[c.tag] = m.promised(ask{reeve: m.self, number: x.Number, tag: c.tag, until: c.until})
}

func (c freeing) line() string { return "let " + c.tag + numbers(c.now) }

func (c freeing) refusal(m *memory) api.Errno {
	switch {
	case !isTick(c.now):
		return api.ErrArg
	case !m.holdsNow(c.tag, c.now) && !m.asks(c.tag):
		return api.ErrNone
	}
	return api.OK
}

func (c freeing) apply(m *memory) {
	for i, h := range m.holds {
		if h.Tag == c.tag && isInForce(h, c.now) {
			m.holds[i].Until = c.now - 1
		}
	}
	m.closeFor(c.tag)
	m.letGo[c.tag] = true
	if p, is := m.promises[c.tag]; is && p.To == m.self {
		delete(m.promises, c.tag)
	}
}

func (c promising) line() string { return c.ask.words() + numbers(c.now) }

// refusal returns why the reeve does not give the promise, which it does not tell.
func (c promising) refusal(m *memory) api.Errno {
	p, is := m.promises[c.tag]
	switch {
	case c.reeve == m.self:
		return api.ErrState
	case c.until < c.now, m.isAnothers(c.tag, c.reeve, c.now), is && p.To == c.reeve && p.Number > c.number:
		return api.ErrHeld
	}
	return api.OK
}

func (c promising) apply(m *memory) { m.promises[c.tag] = m.promised(c.ask) }

func (c granting) line() string { return "grant" + numbers(c.number, c.now) }

func (c granting) refusal(m *memory) api.Errno {
	if _, is := m.asked(c.number, c.now); !is {
		return api.ErrNone
	}
	return api.OK
}

func (c granting) apply(m *memory) {
	x := &m.requests[c.number-1]
	m.holds = append(m.holds, api.Hold{Tag: x.Tag, From: c.now, Until: x.Until, Number: c.number})
	x.open = false
}

func (c dropping) line() string { return c.free.words() }

func (c dropping) refusal(m *memory) api.Errno {
	p, is := m.promises[c.tag]
	switch {
	case c.reeve == m.self:
		return api.ErrState
	case !is || p.To != c.reeve || p.Number > c.number:
		return api.ErrNone
	}
	return api.OK
}

func (c dropping) apply(m *memory) { delete(m.promises, c.tag) }

func (c posting) line() string { return lineOf(api.Posting(c)) }

func (c posting) refusal(m *memory) api.Errno {
	if e := CheckPosting(m.n, api.Posting(c)); e != api.OK {
		return e
	}
	its := m.roll[c.Reeve]
	if c.Number != len(its)+1 {
		return api.ErrState
	}
	return invalid(its, api.Posting(c))
}

func (c posting) apply(m *memory) {
	m.roll[c.Reeve] = append(m.roll[c.Reeve], api.Posting(c))
}

// readChange returns the change at one of n reeves for which a line of the journal stands, and gives up without one.
func readChange(n int, line string) change {
	r := newReader(line)
	var c change
	switch r.word() {
	case "want":
		c = wanting{tag: r.tag(), until: r.tick(), now: r.tick()}
	case "let":
		c = freeing{tag: r.tag(), now: r.tick()}
	case "ask":
		c = promising{ask: r.ask(n), now: r.tick()}
	case "grant":
		c = granting{number: r.request(), now: r.tick()}
	case "free":
		c = dropping{r.free(n)}
	default:
		c = posting(readPosting(n, line))
	}
	need(c.line() == line, api.ErrForm)
	return c
}
