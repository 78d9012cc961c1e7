package pound

import (
	"slices"

	"couchant/api"
)

// roll is the postings of each reeve: the one with the Number k has the index k - 1.
type roll [api.MaxReeves][]api.Posting

// refOf returns the name of a posting.
func refOf(p api.Posting) api.Ref { return api.Ref{Reeve: p.Reeve, Number: p.Number} }

// comesBefore tells whether a Ref stands before another one.
func comesBefore(a, b api.Ref) bool {
	return a.Reeve < b.Reeve || a.Reeve == b.Reeve && a.Number < b.Number
}

// owed returns what is owed for the charge with a Number, by the postings of its reeve.
func owed(l []api.Posting, number int) int {
	left := l[number-1].Amount
	for _, p := range l[number:] {
		if lessens(p) && p.Of.Number == number {
			left -= p.Amount
		}
	}
	return max(left, 0)
}

// isCharged tells whether there is a charge of a kind for a case.
func isCharged(l []api.Posting, kind uint8, number int) bool {
	return slices.ContainsFunc(l, func(p api.Posting) bool { return p.Kind == kind && p.Case == number })
}

// isPaidIn tells whether a PostTake was paid in.
func isPaidIn(l []api.Posting, by api.Ref) bool {
	return slices.ContainsFunc(l, func(p api.Posting) bool { return p.Kind == api.PostPay && p.By == by })
}

// invalid returns why a well-formed posting is not valid behind all those of its reeve before it.
func invalid(before []api.Posting, p api.Posting) api.Errno {
	straight := p.By == api.Ref{}
	switch {
	case isCharge(p) && isCharged(before, p.Kind, p.Case), !straight && isPaidIn(before, p.By):
		return api.ErrTwice
	case !lessens(p):
		return api.OK
	}
	charge := before[p.Of.Number-1]
	switch {
	case !isCharge(charge) || charge.Owner != p.Owner:
		return api.ErrNone
	case straight && p.Amount > owed(before, p.Of.Number):
		return api.ErrState
	}
	return api.OK
}

// CheckRoll returns the index of the first posting that a roll of n reeves cannot have there, and why.
func CheckRoll(n int, l []api.Posting) (int, api.Errno) {
	if !isCount(n) {
		return 0, api.ErrArg
	}
	first := 0 // the index of the first posting of the same reeve
	for i, p := range l {
		if e := CheckPosting(n, p); e != api.OK {
			return i, e
		}
		if i > 0 && p.Reeve > l[i-1].Reeve {
			first = i
		}
		if i > 0 && p.Reeve < l[i-1].Reeve || p.Number != i-first+1 {
			return i, api.ErrState
		}
		if e := invalid(l[first:i], p); e != api.OK {
			return i, e
		}
	}
	return 0, api.OK
}

// rollOf returns the roll with some postings, or why they are none.
func rollOf(n int, l []api.Posting) (roll, api.Errno) {
	var r roll
	if _, e := CheckRoll(n, l); e != api.OK {
		return r, e
	}
	for _, p := range l {
		r[p.Reeve] = append(r[p.Reeve], p)
	}
	return r, api.OK
}

// all returns the postings of all reeves, in the order of their Refs.
func (r *roll) all() []api.Posting { return slices.Concat(r[:]...) }

// charge returns the charge with a name, and whether there is one.
func (r *roll) charge(of api.Ref) (api.Posting, bool) {
	if !within(of.Reeve, 0, len(r)-1) || !within(of.Number, 1, len(r[of.Reeve])) {
		return api.Posting{}, false
	}
	p := r[of.Reeve][of.Number-1]
	return p, isCharge(p)
}

// Owed returns what is owed for a charge.
func Owed(n int, l []api.Posting, of api.Ref) (int, api.Errno) {
	r, e := rollOf(n, l)
	if e != api.OK {
		return 0, e
	}
	if _, is := r.charge(of); !is {
		return 0, api.ErrNone
	}
	return owed(r[of.Reeve], of.Number), api.OK
}

// unsettled returns the PostTakes for charges of a reeve that this one has not paid in, in the order of their Refs.
func (r *roll) unsettled(reeve int) []api.Posting {
	var takes []api.Posting
	for _, p := range r.all() {
		if p.Kind != api.PostTake || p.Of.Reeve != reeve {
			continue
		}
		if charge, is := r.charge(p.Of); is && charge.Owner == p.Owner && !isPaidIn(r[reeve], refOf(p)) {
			takes = append(takes, p)
		}
	}
	return takes
}

// Unsettled returns the Refs of the PostTakes for charges of a reeve that this one has not paid in.
func Unsettled(n int, l []api.Posting, reeve int) ([]api.Ref, api.Errno) {
	r, e := rollOf(n, l)
	if e != api.OK {
		return nil, e
	}
	var refs []api.Ref
	for _, p := range r.unsettled(reeve) {
		refs = append(refs, refOf(p))
	}
	return refs, api.OK
}

// Balance returns what an account was debited, less what it was credited.
func Balance(n int, l []api.Posting, account int) (int, api.Errno) {
	if _, e := CheckRoll(n, l); e != api.OK {
		return 0, e
	}
	balance := 0
	for _, p := range l {
		x := TransferOf(p)
		if x.Debit == account {
			balance += x.Amount
		}
		if x.Credit == account {
			balance -= x.Amount
		}
	}
	return balance, api.OK
}
