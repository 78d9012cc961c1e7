package deed

import (
	"iter"
	"maps"
	"slices"

	"couchant/api"
	"couchant/share"
)

// holding is the parts that somebody holds, by the Id of the DeedEnter that they come from.
type holding map[int]int

// state is what the deeds that were done have made.
type state struct {
	holdings map[int]holding // of owners, at most those who ever held something
	leases   []api.Lease     // those in force
	pledges  []api.Pledge    // those in force
	idle     []int
}

// works returns what the deeds of each kind do; they panic if that is not possible.
func works() [api.DeedVoid]func(*state, api.Deed) {
	return [api.DeedVoid]func(*state, api.Deed){
		api.DeedEnter:  (*state).enter,
		api.DeedGrant:  (*state).grant,
		api.DeedHeirs:  (*state).inherit,
		api.DeedLease:  (*state).lease,
		api.DeedPledge: (*state).pledge,
		api.DeedRedeem: (*state).redeem,
		api.DeedSeize:  (*state).seize,
	}
}

// doneBy returns what counting deeds, which come in the order in which they are done, have made by a day.
func doneBy(deeds iter.Seq[api.Deed], day int) *state {
	s := &state{holdings: map[int]holding{}}
	for x := range deeds {
		if x.Day > day {
			break
		}
		s.do(x)
	}
	s.expire(day)
	return s
}

// do lets a deed have its turn; it is idle if it is not possible.
func (s *state) do(x api.Deed) {
	defer func() {
		if recover() != nil {
			s.idle = append(s.idle, x.Id)
		}
	}()
	s.expire(x.Day)
	works()[x.Kind](s, x)
}

// expire ends the leases whose End lies before a day.
func (s *state) expire(day int) {
	s.leases = slices.DeleteFunc(s.leases, func(x api.Lease) bool { return x.End < day })
}

func (s *state) enter(x api.Deed) { s.give(x.To, x.Id, x.Parts) }

func (s *state) grant(x api.Deed) {
	s.need(x.From, x.Parts)
	s.move(x.From, x.To, x.Parts)
}

func (s *state) inherit(x api.Deed) {
	s.need(x.From, 1)
	shares, _ := share.Whole(free(s.account(x.From)), x.Shares)
	for i, heir := range x.Heirs {
		s.move(x.From, heir, shares[i])
	}
}

func (s *state) lease(x api.Deed) {
	s.need(x.From, x.Parts)
	s.leases = append(s.leases, api.Lease{Deed: x.Id, From: x.From, To: x.To, Parts: x.Parts, End: x.End})
}

func (s *state) pledge(x api.Deed) {
	s.need(x.From, x.Parts)
	s.pledges = append(s.pledges, api.Pledge{Deed: x.Id, From: x.From, To: x.To, Parts: x.Parts})
}

func (s *state) redeem(x api.Deed) { s.lift(x.Of) }

func (s *state) seize(x api.Deed) {
	p := s.lift(x.Of)
	s.move(p.From, p.To, p.Parts)
}

// need panics if somebody has not so many parts free.
func (s *state) need(owner, parts int) {
	if free(s.account(owner)) < parts {
		panic(api.ErrPoor)
	}
}

// lift ends a pledge and returns it; it panics if it is not in force.
func (s *state) lift(id int) api.Pledge {
	at := slices.IndexFunc(s.pledges, func(p api.Pledge) bool { return p.Deed == id })
	if at < 0 {
		panic(api.ErrPoor)
	}
	p := s.pledges[at]
	s.pledges = slices.Delete(s.pledges, at, at+1)
	return p
}

// give lets somebody hold more parts that come from a DeedEnter; fewer, if parts are less than 0.
func (s *state) give(owner, id, parts int) {
	if s.holdings[owner] == nil {
		s.holdings[owner] = holding{}
	}
	s.holdings[owner][id] += parts
}

// move lets parts change their holder, first those from the DeedEnter with the least Id.
func (s *state) move(from, to, parts int) {
	held := s.holdings[from]
	for _, id := range slices.Sorted(maps.Keys(held)) {
		n := min(parts, held[id])
		if n > 0 {
			s.give(from, id, -n)
			s.give(to, id, n)
			parts -= n
		}
	}
}

// account returns what an owner has.
func (s *state) account(owner int) api.Account {
	a := api.Account{Owner: owner}
	for _, parts := range s.holdings[owner] {
		a.Holds += parts
	}
	for _, p := range s.pledges {
		if p.From == owner {
			a.Pledged += p.Parts
		}
	}
	for _, x := range s.leases {
		if x.From == owner {
			a.Out += x.Parts
		}
		if x.To == owner {
			a.In += x.Parts
		}
	}
	return a
}

// accounts returns the accounts of all owners.
func (s *state) accounts() map[int]api.Account {
	accounts := map[int]api.Account{}
	for owner := 1; owner <= api.MaxOwner; owner++ {
		accounts[owner] = s.account(owner)
	}
	return accounts
}

// free returns how many parts are neither leased out nor pledged.
func free(a api.Account) int { return a.Holds - a.Pledged - a.Out }

// uses returns how many parts may be used.
func uses(a api.Account) int { return a.Holds - a.Out + a.In }
