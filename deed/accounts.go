package deed

import "couchant/api"

// on returns what the deeds that count on a day of knowledge have made by a day.
func on(l []api.Deed, known, day int) *state { return doneBy(counting(l, known), day) }

// listed returns those accounts in which something is not 0, in the order of their owners.
func listed(accounts map[int]api.Account) []api.Account {
	var l []api.Account
	for owner, a := range accounts {
		if a != (api.Account{Owner: owner}) {
			l = append(l, a)
		}
	}
	return sorted(l, func(a api.Account) int { return a.Owner })
}

// Accounts returns the accounts on a day in which something is not 0, in the order of their owners.
func Accounts(l []api.Deed, known, day int) []api.Account {
	return listed(on(l, known, day).accounts())
}

// AccountOf returns the account of an owner on a day.
func AccountOf(l []api.Deed, known, day, owner int) api.Account {
	if !isRegister(l) || !isOwner(owner) {
		return api.Account{}
	}
	return on(l, known, day).account(owner)
}

// Uses returns how many parts somebody may use on a day.
func Uses(l []api.Deed, known, day, owner int) int {
	return uses(AccountOf(l, known, day, owner))
}

// Free returns how many parts somebody has on a day that are neither leased out nor pledged.
func Free(l []api.Deed, known, day, owner int) int {
	return free(AccountOf(l, known, day, owner))
}

// Total returns how many parts all hold together on a day.
func Total(l []api.Deed, known, day int) int {
	sum := 0
	for _, a := range Accounts(l, known, day) {
		sum += a.Holds
	}
	return sum
}

// Leases returns the leases in force on a day, in the order of their deeds.
func Leases(l []api.Deed, known, day int) []api.Lease {
	return sorted(on(l, known, day).leases, func(x api.Lease) int { return x.Deed })
}

// Pledges returns the pledges in force on a day, in the order of their deeds.
func Pledges(l []api.Deed, known, day int) []api.Pledge {
	return sorted(on(l, known, day).pledges, func(x api.Pledge) int { return x.Deed })
}

// Touched returns the owners who may use another number of parts on a day by one day of knowledge than by another one, ascending.
func Touched(l []api.Deed, from, to, day int) []int {
	one, two := on(l, from, day).accounts(), on(l, to, day).accounts()
	var touched []int
	for owner := 1; owner <= api.MaxOwner; owner++ {
		if uses(one[owner]) != uses(two[owner]) {
			touched = append(touched, owner)
		}
	}
	return touched
}
