package pound

import (
	"maps"
	"slices"

	"couchant/api"
)

// Reeve is a reeve on its disk (J8 to J17).
type Reeve struct {
	memory  memory
	journal journal
}

// Open returns the reeve, one of n, whose journal a disk contains.
func Open(d *Disk, reeve, n int) (*Reeve, api.Errno) {
	if !isCount(n) || !within(reeve, 0, n-1) {
		return nil, api.ErrArg
	}
	if e := d.refusal(); e != api.OK {
		return nil, e
	}
	r := &Reeve{memory: newMemory(reeve, n), journal: journal{disk: d}}
	if e := attempt(r.load); e != api.OK {
		return nil, e
	}
	return r, api.OK
}

// load does again what the journal says.
func (r *Reeve) load() {
	all := sectors(r.journal.disk)
	r.journal.begin(all, r.memory.self, r.memory.n)
	for line := range r.journal.lines(all) {
		var c change
		e := attempt(func() { c = readChange(r.memory.n, line) })
		need(e == api.OK && c.refusal(&r.memory) == api.OK, api.ErrSpoilt)
		c.apply(&r.memory)
	}
	need(isLeft(all[r.journal.end:]), api.ErrSpoilt)
}

// do makes changes that are possible durable, all or none.
func (r *Reeve) do(l ...change) api.Errno {
	var lines []string
	for _, c := range l {
		lines = append(lines, c.line())
	}
	if e := r.journal.add(lines); e != api.OK {
		return e
	}
	for _, c := range l {
		c.apply(&r.memory)
	}
	return api.OK
}

// attemptTo makes a change durable, if it is possible.
func (r *Reeve) attemptTo(c change) api.Errno {
	if e := c.refusal(&r.memory); e != api.OK {
		return e
	}
	return r.do(c)
}

// Want makes a request for a beast until a tick and returns its Number.
func (r *Reeve) Want(tag string, until, now int) (int, api.Errno) {
	if r == nil {
		return 0, api.ErrNil
	}
	if e := r.attemptTo(wanting{tag: tag, until: until, now: now}); e != api.OK {
		return 0, e
	}
	return len(r.memory.requests), api.OK
}

// Free lets a beast go.
func (r *Reeve) Free(tag string, now int) api.Errno {
	if r == nil {
		return api.ErrNil
	}
	return r.attemptTo(freeing{tag: tag, now: now})
}

// Asks returns the open requests.
func (r *Reeve) Asks() []api.Request {
	if r == nil {
		return nil
	}
	var l []api.Request
	for _, x := range r.memory.requests {
		if x.open {
			l = append(l, x.Request)
		}
	}
	return l
}

// knows tells whether there is a reeve to be asked what is so at a tick.
func (r *Reeve) knows(now int) bool { return r != nil && isTick(now) }

// Promises returns the own promises that are in force.
func (r *Reeve) Promises(now int) []api.Promise {
	if !r.knows(now) {
		return nil
	}
	return r.memory.inForce(now)
}

// Holds returns the own holds that are in force.
func (r *Reeve) Holds(now int) []api.Hold {
	if !r.knows(now) {
		return nil
	}
	return r.memory.holding(now)
}

// Roll returns all postings that the reeve has.
func (r *Reeve) Roll() []api.Posting {
	if r == nil {
		return nil
	}
	return r.memory.roll.all()
}

// Have returns how many postings of each reeve it has.
func (r *Reeve) Have() api.Stock {
	var s api.Stock
	if r != nil {
		copy(s.Have[:], r.memory.have())
	}
	return s
}

// Letters returns what is to be told to each other reeve.
func (r *Reeve) Letters(now int) []string {
	if !r.knows(now) {
		return nil
	}
	m := &r.memory
	l := []string{m.have().text()}
	for _, x := range m.requests {
		if x.open && x.Until >= now {
			l = append(l, ask{reeve: m.self, number: x.Number, tag: x.Tag, until: x.Until}.text())
		}
	}
	for _, tag := range slices.Sorted(maps.Keys(m.letGo)) {
		if x := m.last(tag); x.Until >= now {
			l = append(l, free{reeve: m.self, number: x.Number, tag: tag}.text())
		}
	}
	return l
}
