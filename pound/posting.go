package pound

import "couchant/api"

func isCharge(p api.Posting) bool { return p.Kind == api.PostFine || p.Kind == api.PostFee }

// lessens tells whether a posting is one by which less is owed for its Of.
func lessens(p api.Posting) bool { return p.Kind == api.PostPay || p.Kind == api.PostWaive }

// home returns which of n reeves charges what is due in a case.
func home(n, number int) int { return number % n }

// CheckPosting returns why a posting of one of n reeves is not well-formed.
func CheckPosting(n int, p api.Posting) api.Errno {
	if isCount(n) && isRef(n, api.Ref{Reeve: p.Reeve, Number: p.Number}) && isTick(p.Tick) && isOwner(p.Owner) && isMoney(p.Amount) && hasItsFields(n, p) {
		return api.OK
	}
	return api.ErrArg
}

// hasItsFields tells whether the fields of a posting that not all kinds use are right.
func hasItsFields(n int, p api.Posting) bool {
	none := api.Ref{}
	switch p.Kind {
	case api.PostFine, api.PostFee:
		return isCase(p.Case) && home(n, p.Case) == p.Reeve && p.Of == none && p.By == none
	case api.PostTake:
		return p.Case == 0 && isRef(n, p.Of) && p.Of.Reeve != p.Reeve && p.By == none
	case api.PostPay:
		return p.Case == 0 && isEarlier(n, p) && (p.By == none || isRef(n, p.By) && p.By.Reeve != p.Reeve)
	case api.PostWaive:
		return p.Case == 0 && isEarlier(n, p) && p.By == none
	}
	return false
}

// isEarlier tells whether the Of of a posting names one of the same reeve before it.
func isEarlier(n int, p api.Posting) bool {
	return isRef(n, p.Of) && p.Of.Reeve == p.Reeve && p.Of.Number < p.Number
}

// entry is a posting as the accounts see it.
type entry api.Posting

func (entry) lord() int { return api.AccLord }

func (p entry) owner() int { return p.Owner }

func (p entry) chest() int { return api.AccChest + p.Reeve }

func (entry) transit() int { return api.AccTransit }

// means returns the account from which a fine or fee is paid.
func (p entry) means() int {
	if p.By == (api.Ref{}) {
		return p.chest()
	}
	return p.transit()
}

// sides are the accounts that a posting debits and credits.
type sides struct{ debit, credit func(entry) int }

// accounts returns the sides of each kind of postings.
func accounts() [api.PostWaive + 1]sides {
	return [...]sides{
		api.PostFine:  {entry.owner, entry.lord},
		api.PostFee:   {entry.owner, entry.lord},
		api.PostTake:  {entry.chest, entry.transit},
		api.PostPay:   {entry.means, entry.owner},
		api.PostWaive: {entry.lord, entry.owner},
	}
}

// TransferOf returns what goes from which account to which one by a posting.
func TransferOf(p api.Posting) api.Transfer {
	if !within(int(p.Kind), int(api.PostFine), int(api.PostWaive)) {
		return api.Transfer{}
	}
	of := accounts()[p.Kind]
	return api.Transfer{Debit: of.debit(entry(p)), Credit: of.credit(entry(p)), Amount: p.Amount}
}
