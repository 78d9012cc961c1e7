package pound

import "couchant/api"

// post adds an own posting to the roll and returns its Number.
func (r *Reeve) post(p api.Posting) (int, api.Errno) {
	p.Reeve = r.memory.self
	p.Number = len(r.memory.roll[p.Reeve]) + 1
	if p.Number > api.MaxPostings {
		return 0, api.ErrLimit
	}
	if e := r.do(posting(p)); e != api.OK {
		return 0, e
	}
	return p.Number, api.OK
}

// Charge posts a charge in a case and returns its Number.
func (r *Reeve) Charge(kind uint8, number, owner, amount, now int) (int, api.Errno) {
	if r == nil {
		return 0, api.ErrNil
	}
	p := api.Posting{Tick: now, Kind: kind, Case: number, Owner: owner, Amount: amount}
	m := &r.memory
	switch {
	case !isTick(now) || !isCharge(p) || !isCase(number) || !isOwner(owner) || !isMoney(amount):
		return 0, api.ErrArg
	case home(m.n, number) != m.self:
		return 0, api.ErrHome
	case isCharged(m.roll[m.self], kind, number):
		return 0, api.ErrTwice
	}
	return r.post(p)
}

// payable returns how much can be paid for a charge: what is owed, less what was taken by others and is not paid in, if it is another reeve's.
func (m *memory) payable(of api.Ref) int {
	left := owed(m.roll[of.Reeve], of.Number)
	if of.Reeve == m.self {
		return left
	}
	for _, p := range m.roll.unsettled(of.Reeve) {
		if p.Of == of {
			left -= p.Amount
		}
	}
	return left
}

// lessen posts that so much less is owed for a charge: kind is PostTake for another reeve's.
func (r *Reeve) lessen(kind uint8, of api.Ref, amount, now int) (int, api.Errno) {
	m := &r.memory
	if !isTick(now) || !isRef(m.n, of) || !isMoney(amount) {
		return 0, api.ErrArg
	}
	charge, is := m.roll.charge(of)
	switch {
	case !is:
		return 0, api.ErrNone
	case kind == api.PostWaive && of.Reeve != m.self:
		return 0, api.ErrHome
	case amount > m.payable(of):
		return 0, api.ErrState
	}
	return r.post(api.Posting{Tick: now, Kind: kind, Of: of, Owner: charge.Owner, Amount: amount})
}

// Pay takes money for a charge and returns the Number of its posting.
func (r *Reeve) Pay(of api.Ref, amount, now int) (int, api.Errno) {
	if r == nil {
		return 0, api.ErrNil
	}
	kind := api.PostTake
	if of.Reeve == r.memory.self {
		kind = api.PostPay
	}
	return r.lessen(kind, of, amount, now)
}

// Waive waives a part of an own charge and returns the Number of its posting.
func (r *Reeve) Waive(of api.Ref, amount, now int) (int, api.Errno) {
	if r == nil {
		return 0, api.ErrNil
	}
	return r.lessen(api.PostWaive, of, amount, now)
}

// Settle pays in what another reeve has taken, and returns how many such postings are left.
func (r *Reeve) Settle(now int) (int, api.Errno) {
	switch {
	case r == nil:
		return 0, api.ErrNil
	case !isTick(now):
		return 0, api.ErrArg
	}
	takes := r.memory.roll.unsettled(r.memory.self)
	if len(takes) == 0 {
		return 0, api.ErrNone
	}
	take := takes[0]
	if _, e := r.post(api.Posting{Tick: now, Kind: api.PostPay, Of: take.Of, By: refOf(take), Owner: take.Owner, Amount: take.Amount}); e != api.OK {
		return 0, e
	}
	return len(takes) - 1, api.OK
}
