package manor

import (
	"slices"

	"couchant/api"
	"couchant/pound"
)

// reeve is a reeve of layer 9, and its disk. Where it could not be opened from the disk, there is none, and it does nothing.
type reeve struct {
	*pound.Reeve
	disk *pound.Disk
}

// newReeve returns a reeve on a new disk, one of n.
func newReeve(sectors, self, n int) (*reeve, api.Errno) {
	d, e := pound.NewDisk(sectors)
	if e != api.OK {
		return nil, e
	}
	r := &reeve{disk: d}
	e = r.open(self, n)
	return r, e
}

// open opens the reeve from its disk.
func (r *reeve) open(self, n int) api.Errno {
	opened, e := pound.Open(r.disk, self, n)
	r.Reeve = opened
	return e
}

// isDown tells whether the reeve can do nothing.
func (r *reeve) isDown() bool { return r.Reeve == nil || r.disk.Down() }

// hasReeve tells whether there is a reeve with an index.
func (m *Manor) hasReeve(i int) bool { return within(i, 0, len(m.reeves)-1) }

// reeveAt returns a reeve.
func (m *Manor) reeveAt(i int) (*reeve, api.Errno) {
	switch {
	case m == nil:
		return nil, api.ErrNil
	case !m.hasReeve(i):
		return nil, api.ErrArg
	}
	return m.reeves[i], api.OK
}

// workerAt returns a reeve that was opened.
func (m *Manor) workerAt(i int) (*reeve, api.Errno) {
	r, e := m.reeveAt(i)
	if e == api.OK && r.Reeve == nil {
		return nil, api.ErrDown
	}
	return r, e
}

// Want lets a reeve make a request for a beast and returns its Number.
func (m *Manor) Want(reeve int, tag string, until int) (int, api.Errno) {
	r, e := m.workerAt(reeve)
	if e != api.OK {
		return 0, e
	}
	return r.Want(tag, until, m.Today())
}

// Free lets a reeve let a beast go.
func (m *Manor) Free(reeve int, tag string) api.Errno {
	r, e := m.workerAt(reeve)
	if e != api.OK {
		return e
	}
	return r.Free(tag, m.Today())
}

// Fee lets a reeve charge a fee and returns the Number of the posting.
func (m *Manor) Fee(reeve, number, owner, amount int) (int, api.Errno) {
	r, e := m.workerAt(reeve)
	if e != api.OK {
		return 0, e
	}
	return r.Charge(api.PostFee, number, owner, amount, m.Today())
}

// Pay lets a reeve take money for a charge and returns the Number of the posting.
func (m *Manor) Pay(reeve int, of api.Ref, amount int) (int, api.Errno) {
	r, e := m.workerAt(reeve)
	if e != api.OK {
		return 0, e
	}
	return r.Pay(of, amount, m.Today())
}

// Waive lets a reeve waive a part of an own charge and returns the Number of the posting.
func (m *Manor) Waive(reeve int, of api.Ref, amount int) (int, api.Errno) {
	r, e := m.workerAt(reeve)
	if e != api.OK {
		return 0, e
	}
	return r.Waive(of, amount, m.Today())
}

// Settle lets a reeve pay in what another one has taken, and returns how many such postings are left.
func (m *Manor) Settle(reeve int) (int, api.Errno) {
	r, e := m.workerAt(reeve)
	if e != api.OK {
		return 0, e
	}
	return r.Settle(m.Today())
}

// Charge lets the home of a case charge the fine that was judged, and returns the Number of the posting.
func (m *Manor) Charge(id int) (int, api.Errno) {
	if m == nil {
		return 0, api.ErrNil
	}
	c := suitOf(m.steward.books, id)
	judgment, _ := c.last(api.StepJudge)
	switch {
	case c.state() == api.CaseNone:
		return 0, api.ErrNone
	case c.state() != api.CaseFined || judgment.Amount == 0:
		return 0, api.ErrState
	}
	r, e := m.workerAt(id % len(m.reeves))
	if e != api.OK {
		return 0, e
	}
	return r.Charge(api.PostFine, id, c.steps[0].Owner, judgment.Amount, m.Today())
}

// Send puts all that a reeve has to tell on its line to another one.
func (m *Manor) Send(from, to int) api.Errno {
	r, e := m.reeveAt(from)
	if e != api.OK {
		return e
	}
	switch {
	case !m.hasReeve(to) || from == to:
		return api.ErrArg
	case r.isDown():
		return api.ErrDown
	case len(m.lines[from][to]) >= api.MaxLine:
		return api.ErrFull
	}
	for _, letter := range r.Letters(m.Today()) {
		m.put(from, to, letter)
	}
	return api.OK
}

// put puts a message on a line, if this has room.
func (m *Manor) put(from, to int, message string) {
	if line := &m.lines[from][to]; len(*line) < api.MaxLine {
		*line = append(*line, message)
	}
}

// lineWith returns a line that has a message with an index.
func (m *Manor) lineWith(from, to, index int) (*[]string, api.Errno) {
	switch {
	case m == nil:
		return nil, api.ErrNil
	case !m.hasReeve(from) || !m.hasReeve(to) || !within(index, 0, len(m.lines[from][to])-1):
		return nil, api.ErrNone
	}
	return &m.lines[from][to], api.OK
}

// Carry lets a reeve hear a message, and puts its answer on the line back.
func (m *Manor) Carry(from, to, index int) api.Errno {
	line, e := m.lineWith(from, to, index)
	if e != api.OK {
		return e
	}
	r := m.reeves[to]
	if r.isDown() {
		return api.ErrDown
	}
	message := (*line)[index]
	*line = slices.Delete(*line, index, index+1)
	answer, e := r.Hear(message, m.Today())
	if answer != "" {
		m.put(to, from, answer)
	}
	return e
}

// Lose takes a message away.
func (m *Manor) Lose(from, to, index int) api.Errno {
	line, e := m.lineWith(from, to, index)
	if e != api.OK {
		return e
	}
	*line = slices.Delete(*line, index, index+1)
	return api.OK
}

// Repeat puts a copy of a message at the end of its line.
func (m *Manor) Repeat(from, to, index int) api.Errno {
	line, e := m.lineWith(from, to, index)
	switch {
	case e != api.OK:
		return e
	case len(*line) >= api.MaxLine:
		return api.ErrFull
	}
	m.put(from, to, (*line)[index])
	return api.OK
}

// Stop lets the power of a reeve's disk fail after so many calls.
func (m *Manor) Stop(reeve, calls int) api.Errno {
	r, e := m.reeveAt(reeve)
	if e != api.OK {
		return e
	}
	return r.disk.Stop(calls)
}

// Crash crashes the disk of a reeve, and opens the reeve anew from it.
func (m *Manor) Crash(reeve int, keep []int) api.Errno {
	r, e := m.reeveAt(reeve)
	if e != api.OK {
		return e
	}
	r.disk.Crash(keep)
	return r.open(reeve, len(m.reeves))
}

// Roll returns the roll of a reeve.
func (m *Manor) Roll(reeve int) []api.Posting {
	r, e := m.reeveAt(reeve)
	if e != api.OK {
		return nil
	}
	return r.Roll()
}

// Holds returns the holds of a reeve that are in force.
func (m *Manor) Holds(reeve int) []api.Hold {
	r, e := m.reeveAt(reeve)
	if e != api.OK {
		return nil
	}
	return r.Holds(m.Today())
}

// Promises returns the promises of a reeve that are in force.
func (m *Manor) Promises(reeve int) []api.Promise {
	r, e := m.reeveAt(reeve)
	if e != api.OK {
		return nil
	}
	return r.Promises(m.Today())
}
