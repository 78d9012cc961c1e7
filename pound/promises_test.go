package pound_test

import (
	"fmt"
	"slices"
	"testing"

	"couchant/api"
	"couchant/pound"
)

// P9.4: reeves that all want one beast all the time, and free it soon, never hold it at one tick, and each gets it at times.
func TestOneBeast(t *testing.T) {
	held := map[int]int{}
	for seed := range uint64(60) {
		r := random(300 + seed)
		w := newWorld(t, r, pick(r, 3, 5), 4000)
		for range 700 {
			at := r.IntN(w.n)
			switch k := r.IntN(24); {
			case k == 0:
				w.do(at, action{name: "Want", tag: "ewe-7", until: w.now + 2 + r.IntN(8), now: w.now})
			case k == 1:
				w.do(at, action{name: "Free", tag: "ewe-7", now: w.now})
			case k == 2:
				w.now++
			case k == 3:
				w.step(seed%3 > 0)
			case k < 7:
				w.send(at)
			case len(w.mail) > 0:
				index := r.IntN(len(w.mail))
				w.carry(index)
				if r.IntN(4) > 0 {
					w.mail = slices.Delete(w.mail, index, index+1)
				}
			}
			w.askHolds()
			for at, o := range w.officers {
				if l := o.reeve.Holds(w.now); slices.ContainsFunc(l, func(h api.Hold) bool { return h.Tag == "ewe-7" && h.From == w.now }) {
					held[at]++
				}
			}
		}
	}
	for at := range 5 {
		if held[at] < 100 {
			t.Errorf("%d held the beast %d times", at, held[at])
		}
	}
}

// P9.5: at each reeve what is owed for a charge never grows, and all together charge each case once for each kind, and pay each PostTake in once.
func TestNoFineTwice(t *testing.T) {
	lessened, paid := 0, 0
	for seed := range uint64(30) {
		r := random(400 + seed)
		w := newWorld(t, r, pick(r, 3, 5), 4000)
		owes := map[string]int{}
		for range 400 {
			w.step(seed%3 > 0)
			if r.IntN(3) == 0 {
				w.do(r.IntN(w.n), w.anything(0))
			}
			at := r.IntN(w.n)
			roll := w.officers[at].reeve.Roll()
			for _, p := range roll {
				if p.Kind != api.PostFine && p.Kind != api.PostFee {
					continue
				}
				owed, e := pound.Owed(w.n, roll, ref(p.Reeve, p.Number))
				mustOK(t, "Owed", e)
				what := fmt.Sprint(at, p)
				before, is := owes[what]
				if is && owed > before || owed > p.Amount || owed < 0 {
					t.Fatalf("what is owed for %v grows from %d to %d", p, before, owed)
				}
				if is && owed < before {
					lessened++
				}
				owes[what] = owed
			}
		}
		charges, takes := map[string]api.Posting{}, map[api.Ref]api.Posting{}
		for _, o := range w.officers {
			for _, p := range o.reeve.Roll() {
				if p.Kind == api.PostFine || p.Kind == api.PostFee {
					what := fmt.Sprint(p.Kind, p.Case)
					if other, is := charges[what]; is && other != p || p.Case%w.n != p.Reeve {
						t.Fatalf("charged twice: %v, %v", other, p)
					}
					charges[what] = p
				}
				if p.By != (api.Ref{}) {
					if other, is := takes[p.By]; is && other != p {
						t.Fatalf("paid in twice: %v, %v", other, p)
					}
					takes[p.By] = p
					paid++
				}
			}
		}
	}
	if lessened < 100 || paid < 100 {
		t.Errorf("lessened %d times, %d paid in", lessened, paid)
	}
}

// P9.6: however much each has done alone, once all have heard all there is one roll.
func TestOneRoll(t *testing.T) {
	settled := 0
	for seed := range uint64(20) {
		r := random(500 + seed)
		w := newWorld(t, r, pick(r, 3, 5), 6000)
		for range 60 + r.IntN(200) {
			at := r.IntN(w.n)
			w.do(at, w.anything(at))
			if r.IntN(6) == 0 {
				w.step(false)
			}
		}
		w.talk()
		for range 60 { // all take money that others do not know of
			at := r.IntN(w.n)
			w.do(at, action{name: "Pay", of: w.anyRef(at), amount: 1 + r.IntN(20), now: w.now})
		}
		w.agree()
		w.askRolls()
		settled += w.seen["settled"]
	}
	if settled < 100 {
		t.Errorf("%d settled", settled)
	}
}

// P9.7: a beast that nobody has is impounded by the first one who asks a majority, at the latest at the last tick of the request.
func TestFreeBeast(t *testing.T) {
	r := random(21)
	for range 200 {
		n := pick(r, 3, 5)
		w := newWorld(t, r, n, 4000)
		for range 120 {
			w.step(true)
		}
		for at := range n {
			w.crash(at)
		}
		for _, o := range w.officers {
			for _, p := range o.reeve.Promises(w.now) {
				w.now = max(w.now, p.Until+1)
			}
		}
		at := r.IntN(n)
		x := w.officers[at].reeve
		tag, until := pick(r, tags()...), w.now+r.IntN(5)
		number := wants(t, x, tag, until, w.now)
		text := fmt.Sprintf("ask %d %d %s %d\n", at, number, tag, until)
		if !slices.Contains(x.Letters(w.now), text) {
			t.Fatalf("no letter is %q: %q", text, x.Letters(w.now))
		}
		others := r.Perm(n)
		others = slices.DeleteFunc(others, func(other int) bool { return other == at })[:n/2]
		var answers []string
		for _, other := range others {
			w.now = min(w.now+r.IntN(2), until)
			answer, e := w.officers[other].reeve.Hear(text, w.now)
			mustOK(t, "Hear", e)
			answers = append(answers, answer)
		}
		for i, answer := range answers {
			if l := x.Asks(); !slices.ContainsFunc(l, func(q api.Request) bool { return q.Number == number }) {
				t.Errorf("granted with %d of %d", i, n/2)
			}
			w.now = min(w.now+r.IntN(2), until)
			hear(t, x, answer, w.now, "")
		}
		want := api.Hold{Tag: tag, From: w.now, Until: until, Number: number}
		if !slices.Contains(x.Holds(w.now), want) {
			t.Errorf("%v is not there: %v", want, x.Holds(w.now))
		}
	}
}

// P9.8: a letter that was heard and a promise that was asked for change nothing when they come again.
func TestAgain(t *testing.T) {
	r := random(22)
	letters, asks := 0, 0
	for range 60 {
		w := newWorld(t, r, pick(r, 3, 5), 4000)
		for range 200 {
			w.step(true)
			if len(w.mail) == 0 {
				continue
			}
			m := pick(r, w.mail...)
			o := w.officers[m.to]
			if o.disk.Down() {
				w.crash(m.to)
			}
			first := w.do(m.to, action{name: "Hear", text: m.text, now: w.now})
			if o.disk.Down() || first.cost == 0 && first.answer == "" {
				continue
			}
			before := stateOf(o.reeve, w.ticks()...)
			mustOK(t, "Stop", o.disk.Stop(0)) // nothing durable can be changed now
			again := w.do(m.to, action{name: "Hear", text: m.text, now: w.now})
			if again.e != api.OK || stateOf(o.reeve, w.ticks()...) != before {
				t.Fatalf("%q has an effect once more: %+v", m.text, again)
			}
			mustOK(t, "Stop", o.disk.Stop(1<<40))
			switch m.text[:3] {
			case "pos":
				letters++
				if again.answer != "" {
					t.Errorf("%q is answered once more with %q", m.text, again.answer)
				}
			case "ask":
				asks++
				if again.answer != first.answer {
					t.Errorf("%q is answered with %q, and then with %q", m.text, first.answer, again.answer)
				}
			}
		}
	}
	if letters < 100 || asks < 100 {
		t.Errorf("%d letters, %d asks", letters, asks)
	}
}
