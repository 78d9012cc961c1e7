package pound_test

import (
	"fmt"
	"math/rand/v2"
	"slices"
	"testing"

	"couchant/api"
	"couchant/pound"
)

// call does what an action does.
func (a action) call(r *pound.Reeve) outcome {
	var x outcome
	switch a.name {
	case "Want":
		x.number, x.e = r.Want(a.tag, a.until, a.now)
	case "Free":
		x.e = r.Free(a.tag, a.now)
	case "Charge":
		x.number, x.e = r.Charge(a.kind, a.number, a.owner, a.amount, a.now)
	case "Pay":
		x.number, x.e = r.Pay(a.of, a.amount, a.now)
	case "Waive":
		x.number, x.e = r.Waive(a.of, a.amount, a.now)
	case "Settle":
		x.number, x.e = r.Settle(a.now)
	case "Hear":
		x.answer, x.e = r.Hear(a.text, a.now)
	}
	return x
}

// officer is a reeve on its disk, and what it should know.
type officer struct {
	disk    *pound.Disk
	reeve   *pound.Reeve
	model   *model
	sectors int
	cost    int    // of all operations that took effect
	failed  bool   // an operation returned ErrDown
	other   *model // then: what the reeve knows if this one took effect all the same
	added   int    // then: what that one would have cost
}

// world is reeves, with messages on their way.
type world struct {
	t        testing.TB
	r        *rand.Rand
	n, now   int
	officers []*officer
	mail     []mail
	seen     map[string]int // how often something came about
}

type mail struct {
	from, to int
	text     string
}

func newWorld(t testing.TB, r *rand.Rand, n, sectors int) *world {
	w := &world{t: t, r: r, n: n, seen: map[string]int{}}
	for i := range n {
		d := disk(t, sectors)
		w.officers = append(w.officers, &officer{disk: d, reeve: opened(t, d, i, n), model: newModel(i, n), sectors: sectors})
	}
	return w
}

// do lets a reeve do something and compares that with the model.
func (w *world) do(at int, a action) outcome {
	w.t.Helper()
	o := w.officers[at]
	next := o.model.copy()
	want := next.do(a)
	got := a.call(o.reeve)
	w.seen[fmt.Sprint(a.name, " ", got.e)]++
	down := o.failed || o.disk.Down()
	switch {
	case want.cost == 0:
		// Nothing durable changes: what is returned does not depend on the disk.
		if got.cost = want.cost; got != want {
			w.t.Fatalf("%+v at %d: %+v, want %+v, with %s", a, at, got, want, o.model.state(w.now))
		}
		if want.e == api.OK {
			o.model = next
		}
	case got.e != api.OK && got != outcome{e: got.e}:
		w.t.Fatalf("%+v at %d: %+v", a, at, got)
	case got.e == api.ErrFull:
		if down || 2*(o.cost+want.cost) <= o.sectors {
			w.t.Fatalf("%+v at %d: full, at a cost of %d and %d for %d sectors", a, at, o.cost, want.cost, o.sectors)
		}
		w.seen["full"]++
	case got.e == api.ErrDown:
		if !o.disk.Down() && !o.failed {
			w.t.Fatalf("%+v at %d: down, but the disk is not", a, at)
		}
		if !o.failed {
			o.failed, o.other, o.added = true, next, want.cost
		}
	default:
		got.cost = want.cost
		if down || got != want {
			w.t.Fatalf("%+v at %d: %+v, want %+v; down %v, with %s", a, at, got, want, down, o.model.state(w.now))
		}
		o.model, o.cost = next, o.cost+want.cost
	}
	w.compare(at)
	return got
}

// ticks returns some around now.
func (w *world) ticks() []int {
	return []int{max(w.now-3, 0), w.now, w.now + 1, w.now + 4}
}

// compare asks that a reeve knows what its model does.
func (w *world) compare(at int) {
	w.t.Helper()
	o := w.officers[at]
	if got, want := stateOf(o.reeve, w.ticks()...), o.model.state(w.ticks()...); got != want {
		w.t.Fatalf("the reeve %d knows\n%swant\n%s", at, got, want)
	}
}

// keeps returns how much of some writes is kept.
func (w *world) keeps() []int {
	var keep []int
	for range w.r.IntN(14) {
		keep = append(keep, pick(w.r, 0, 64, 64, 63, w.r.IntN(65), 58+w.r.IntN(7)))
	}
	return keep
}

// crash crashes the disk of a reeve, and opens it, perhaps with power that fails then also.
func (w *world) crash(at int) {
	w.t.Helper()
	o := w.officers[at]
	o.disk.Crash(w.keeps())
	reeve, e := pound.Open(o.disk, at, w.n)
	mustOK(w.t, "Open", e)
	o.reeve = reeve
	o.model.forget()
	if o.failed {
		o.other.forget()
		ticks := append(w.ticks(), 0, 1, 2)
		if got, want := stateOf(reeve, ticks...), o.other.state(ticks...); got == want && got != o.model.state(ticks...) {
			o.model, o.cost = o.other, o.cost+o.added
			w.seen["took effect"]++
		} else {
			w.seen["took none"]++
		}
	}
	o.failed, o.other, o.added = false, nil, 0
	w.compare(at)
}

// send puts the letters of a reeve on their way to all others.
func (w *world) send(at int) {
	for _, text := range w.officers[at].reeve.Letters(w.now) {
		for to := range w.n {
			if to != at {
				w.mail = append(w.mail, mail{at, to, text})
			}
		}
	}
}

// carry lets a reeve hear a message that was sent, and sends the answer.
func (w *world) carry(index int) {
	w.t.Helper()
	m := w.mail[index]
	got := w.do(m.to, action{name: "Hear", text: m.text, now: w.now})
	if got.answer != "" {
		w.mail = append(w.mail, mail{m.to, m.from, got.answer})
	}
}

// anyRef names a posting that there often is.
func (w *world) anyRef(at int) api.Ref {
	roll := w.officers[at].model.roll
	if len(roll) == 0 || w.r.IntN(20) == 0 {
		return ref(w.r.IntN(w.n+1), w.r.IntN(4))
	}
	p := pick(w.r, roll...)
	if p.Kind == api.PostFine || p.Kind == api.PostFee || w.r.IntN(5) == 0 {
		return ref(p.Reeve, p.Number)
	}
	return p.Of
}

// anything returns something that a reeve can do.
func (w *world) anything(at int) action {
	r := w.r
	a := action{now: w.now, tag: pick(r, tags()...), until: w.now + r.IntN(8), of: w.anyRef(at), amount: 1 + r.IntN(30)}
	a.name = pick(r, "Want", "Want", "Free", "Charge", "Pay", "Pay", "Waive", "Settle", "Settle")
	if a.name == "Charge" {
		a.kind, a.owner, a.amount = pick(r, api.PostFine, api.PostFee), 1+r.IntN(3), 10+r.IntN(90)
		a.number = 1 + r.IntN(20)
		if r.IntN(3) > 0 {
			a.number += (at - a.number%w.n + w.n) % w.n
		}
	}
	return a
}

// step lets something happen; it may be a fault.
func (w *world) step(faults bool) {
	w.t.Helper()
	r, at := w.r, w.r.IntN(w.n)
	switch k := r.IntN(40); {
	case k < 8:
		w.do(at, w.anything(at))
	case k < 12:
		w.send(at)
	case k < 30 && len(w.mail) > 0:
		index := r.IntN(len(w.mail))
		w.carry(index)
		if !faults || r.IntN(4) > 0 { // otherwise it comes once more
			w.mail = slices.Delete(w.mail, index, index+1)
		}
	case k < 31:
		w.now += 1 + r.IntN(2)
	case k < 33 && faults:
		w.officers[at].disk.Stop(r.IntN(9))
	case k < 35 && (faults || w.officers[at].failed):
		w.crash(at)
	case k < 36 && faults && len(w.mail) > 0:
		w.mail = slices.Delete(w.mail, 0, 1+r.IntN(len(w.mail))) // these are lost
	}
	if len(w.mail) > 60 {
		w.mail = w.mail[30:]
	}
}

// askHolds asks that no beast is impounded by two reeves (P9.4).
func (w *world) askHolds() {
	w.t.Helper()
	holders := map[string]int{}
	for at, o := range w.officers {
		for _, h := range o.reeve.Holds(w.now) {
			if other, is := holders[h.Tag]; is && other != at {
				w.t.Fatalf("at the tick %d the reeves %d and %d hold %s", w.now, other, at, h.Tag)
			}
			holders[h.Tag] = at
			w.seen["held"]++
		}
	}
}

// askRolls asks that all rolls are valid, balanced and beginnings of one (P9.3, P9.5, P9.6).
func (w *world) askRolls() {
	w.t.Helper()
	for at, o := range w.officers {
		roll := o.reeve.Roll()
		if i, e := pound.CheckRoll(w.n, roll); e != api.OK {
			w.t.Fatalf("the roll of %d is not valid at %d: error %d: %v", at, i, e, roll)
		}
		sum, transit := 0, 0
		for account := range 201 {
			balance, e := pound.Balance(w.n, roll, account)
			mustOK(w.t, "Balance", e)
			sum += balance
			if account == api.AccTransit {
				transit = balance
			}
		}
		paid := map[api.Ref]bool{}
		for _, p := range roll {
			if p.By != (api.Ref{}) {
				paid[p.By] = true
				transit -= p.Amount
			}
			if p.Kind == api.PostTake {
				transit += p.Amount
			}
		}
		if sum != 0 || transit != 0 {
			w.t.Fatalf("the balances of %d add up to %d, and transit to %d: %v", at, sum, transit, roll)
		}
	}
	w.askPrefixes()
}

// askPrefixes asks that of two reeves each has the first postings of a third one that the other has.
func (w *world) askPrefixes() {
	w.t.Helper()
	for _, a := range w.officers {
		for _, b := range w.officers {
			for reeve := range w.n {
				x, y := of(a.reeve.Roll(), reeve), of(b.reeve.Roll(), reeve)
				if k := min(len(x), len(y)); !slices.Equal(x[:k], y[:k]) {
					w.t.Fatalf("two reeves have different postings of %d: %v, %v", reeve, x, y)
				}
			}
		}
	}
}

// of returns the postings of a reeve.
func of(l []api.Posting, reeve int) []api.Posting {
	var its []api.Posting
	for _, p := range l {
		if p.Reeve == reeve {
			its = append(its, p)
		}
	}
	return its
}

// talk lets each reeve hear all letters of each other one, and all answers until there are none.
func (w *world) talk() {
	w.t.Helper()
	w.mail = nil
	for at := range w.n {
		w.send(at)
	}
	for len(w.mail) > 0 {
		w.carry(0)
		w.mail = w.mail[1:]
	}
}

// agree lets all reeves hear all, settle, and hear all again (P9.6).
func (w *world) agree() {
	w.t.Helper()
	for at := range w.n {
		w.crash(at) // which takes back what was stopped
	}
	one := func() {
		for _, o := range w.officers[1:] {
			if !slices.Equal(o.reeve.Roll(), w.officers[0].reeve.Roll()) {
				w.t.Fatalf("two reeves that heard all have different rolls: %v, %v", o.reeve.Roll(), w.officers[0].reeve.Roll())
			}
		}
	}
	w.talk()
	one()
	for at, o := range w.officers {
		left := len(unsettledOf(o.model.roll, at))
		for k := left; ; k-- {
			got := w.do(at, action{name: "Settle", now: w.now})
			if got.e == api.ErrNone {
				break
			}
			if got.e != api.OK || got.number != k-1 {
				w.t.Fatalf("Settle: %+v with %d left", got, k)
			}
		}
		w.seen["settled"] += left
	}
	w.talk()
	one()
	for _, o := range w.officers {
		if balance, e := pound.Balance(w.n, o.reeve.Roll(), api.AccTransit); balance != 0 || e != api.OK {
			w.t.Fatalf("transit has the balance %d, error %d", balance, e)
		}
	}
}

// P9.1 and P9.3 to P9.6: reeves do what the chapter says, whatever messengers, crashes and torn disks do.
func TestWorlds(t *testing.T) {
	seen := map[string]int{}
	for seed := range uint64(90) {
		r := random(100 + seed)
		w := newWorld(t, r, pick(r, 3, 5), pick(r, 4000, 4000, 64+r.IntN(20)))
		faults := seed%4 > 0
		steps := 600
		if w.officers[0].sectors < 100 { // enough for them to become full
			steps = 1500
		}
		for i := range steps {
			w.step(faults)
			w.askHolds()
			if i%50 == 0 {
				w.askRolls()
			}
		}
		for _, o := range w.officers {
			// No beast is impounded twice at a tick, as it is told afterwards.
			for tick := range w.now + 10 {
				for _, other := range w.officers {
					for _, h := range o.reeve.Holds(tick) {
						for _, g := range other.reeve.Holds(tick) {
							if other != o && g.Tag == h.Tag {
								t.Fatalf("held twice at the tick %d: %v, %v", tick, g, h)
							}
						}
					}
				}
			}
		}
		if w.officers[0].sectors == 4000 {
			w.agree()
			w.askRolls()
		}
		for what, times := range w.seen {
			seen[what] += times
		}
	}
	for _, what := range []string{"held", "full", "took effect", "took none", "settled", "Want 0", "Want 90", "Want 93", "Free 0", "Free 5", "Free 90", "Charge 0", "Charge 6", "Charge 90", "Charge 94", "Pay 0", "Pay 5", "Pay 8", "Pay 90", "Waive 0", "Waive 8", "Waive 94", "Waive 5", "Settle 0", "Settle 5", "Settle 90", "Hear 0", "Hear 90", "Hear 92"} {
		if seen[what] < 15 {
			t.Errorf("%s: %d times (%v)", what, seen[what], seen)
		}
	}
}
