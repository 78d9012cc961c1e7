package pound_test

import (
	"fmt"
	"math"
	"math/rand/v2"
	"slices"
	"strings"
	"testing"

	"couchant/api"
	"couchant/pound"
)

// R5: a disk and a reeve that there are not.
func TestNil(t *testing.T) {
	var d *pound.Disk
	_, read := d.Read(0)
	for name, e := range map[string]api.Errno{"Read": read, "Write": d.Write(-1, make([]byte, 65)), "Flush": d.Flush(), "Stop": d.Stop(-1)} {
		if e != api.ErrNil {
			t.Errorf("%s of no disk: error %d", name, e)
		}
	}
	d.Crash([]int{1})
	if !d.Down() {
		t.Error("no disk is not down")
	}
	var r *pound.Reeve
	for _, name := range []string{"Want", "Free", "Charge", "Pay", "Waive", "Settle", "Hear"} {
		for _, a := range []action{{name: name}, {name: name, now: -1, tag: "ewe", text: "have 0 0 0\n"}} {
			if got := a.call(r); got != (outcome{e: api.ErrNil}) {
				t.Errorf("%s of no reeve: %+v", name, got)
			}
		}
	}
	if len(r.Asks())+len(r.Promises(1))+len(r.Holds(1))+len(r.Roll())+len(r.Letters(1)) != 0 || r.Have() != (api.Stock{}) {
		t.Error("no reeve knows something")
	}
}

// odd returns a number, often one that nothing is prepared for.
func odd(r *rand.Rand) int {
	return pick(r, 0, 1, 2, 3, 5, r.IntN(8), -1, -2, math.MinInt, math.MaxInt, math.MinInt+1, math.MaxInt/2+1, 4, 6, 40, 41, 64, 100, 200, 300, 301, 100000, 100001, 1000000, 1000001, int(r.Uint64()))
}

func oddPosting(r *rand.Rand) api.Posting {
	p := api.Posting{Kind: uint8(odd(r))}
	for _, field := range fields(&p) {
		*field = odd(r)
	}
	return p
}

func oddText(r *rand.Rand) string {
	var b strings.Builder
	for range r.IntN(8) {
		b.WriteString(pick(r, "have", "post", "ask", "give", "free", "0", "1", "2", "300", "ewe", "fine", "pay", "by", "\n", "\x00", "\xff", "", "01", "-1", "99999999999999999999"))
		b.WriteString(pick(r, " ", " ", "\n", ""))
	}
	return b.String()
}

// R1, R2: functions of rolls with all that there can be: they do not panic, and return nothing beside an error. R3: they change nothing. R4: they return the same again.
func TestOddRolls(t *testing.T) {
	r := random(31)
	fine, failed := map[string]int{}, map[string]int{}
	for range 20000 {
		n := pick(r, 3, 5, 3, 5, odd(r))
		l := randomRoll(r, pick(r, 3, 5), r.IntN(8))
		if r.IntN(3) == 0 {
			l = append(l, oddPosting(r))
		}
		p := oddPosting(r)
		if len(l) > 0 {
			p = pick(r, l...)
		}
		of, number, text := ref(odd(r), odd(r)), odd(r), oddText(r)
		if len(l) > 0 && r.IntN(3) > 0 {
			of = ref(p.Reeve, p.Number)
			text, _ = writeLine(p)
		}
		before := slices.Clone(l)
		for name, call := range map[string]func() (any, any, api.Errno){
			"CheckPosting": func() (any, any, api.Errno) { return 0, 0, pound.CheckPosting(n, p) },
			"CheckRoll":    func() (any, any, api.Errno) { i, e := pound.CheckRoll(n, l); return min(i, 0), 0, e },
			"Owed":         func() (any, any, api.Errno) { x, e := pound.Owed(n, l, of); return x, 0, e },
			"Unsettled": func() (any, any, api.Errno) {
				x, e := pound.Unsettled(n, l, number)
				return fmt.Sprint(x), "[]", e
			},
			"Balance": func() (any, any, api.Errno) { x, e := pound.Balance(n, l, number); return x, 0, e },
			"Write":   func() (any, any, api.Errno) { x, e := pound.Write(n, p); return x, "", e },
			"Read":    func() (any, any, api.Errno) { x, e := pound.Read(n, text); return x, api.Posting{}, e },
			"TransferOf": func() (any, any, api.Errno) {
				pound.TransferOf(oddPosting(r))
				return 0, 0, api.OK
			},
		} {
			x, none, e := call()
			if e != api.OK && x != none {
				t.Errorf("%s of %d, %v, %+v: %v with error %d", name, n, l, p, x, e)
			}
			if y, _, again := call(); x != y || again != e {
				t.Errorf("%s of %d, %v: %v, then %v", name, n, l, x, y)
			}
			if !slices.Equal(l, before) {
				t.Fatalf("%s changed its arguments", name)
			}
			if e == api.OK {
				fine[name]++
			} else {
				failed[name]++
			}
		}
	}
	for name := range fine {
		if fine[name] < 500 || failed[name] < 500 && name != "TransferOf" {
			t.Errorf("%s succeeded %d times, and failed %d times", name, fine[name], failed[name])
		}
	}
}

// oddAction returns a call with all that there can be.
func oddAction(r *rand.Rand) action {
	return action{
		name: pick(r, "Want", "Free", "Charge", "Pay", "Waive", "Settle", "Hear"), tag: pick(r, "", "ewe-7", "cow", "Ewe", "\xff", strings.Repeat("a", 25)), until: odd(r), now: odd(r),
		kind: uint8(odd(r)), number: odd(r), owner: odd(r), amount: odd(r), of: ref(odd(r), odd(r)), text: oddText(r),
	}
}

// R1, R2: calls of disks and reeves with all that there can be do not panic; with an error they return nothing and have no effect.
func TestOddCalls(t *testing.T) {
	r := random(32)
	fine, failed := 0, 0
	for range 60 {
		w := newWorld(t, r, pick(r, 3, 5), 400)
		for range 60 {
			w.step(false)
			at := r.IntN(w.n)
			a := w.anything(at)
			b := oddAction(r)
			for _, replace := range []func(){func() { a.tag = b.tag }, func() { a.until = b.until }, func() { a.now = b.now }, func() { a.kind = b.kind }, func() { a.number = b.number }, func() { a.owner = b.owner }, func() { a.amount = b.amount }, func() { a.of = b.of }, func() { a = b }} {
				if r.IntN(4) == 0 {
					replace()
				}
			}
			if got := w.do(at, a); got.e == api.OK { // which compares the results and the state
				fine++
			} else {
				failed++
			}
			x := w.officers[at].reeve
			for range 4 {
				now := odd(r)
				if l := x.Letters(now); (len(l) == 0) != (now < 0 || now > 100000) {
					t.Errorf("Letters(%d): %v", now, l)
				}
				if len(x.Promises(now))+len(x.Holds(now)) > 0 && (now < 0 || now > 100000) {
					t.Errorf("at the tick %d something is in force", now)
				}
			}
		}
		d := disk(t, 64)
		for range 100 {
			b, e := d.Read(odd(r))
			if e != api.OK && len(b) != 0 {
				t.Errorf("Read: %q with error %d", b, e)
			}
			d.Write(odd(r), make([]byte, r.IntN(70)))
			d.Stop(odd(r))
			if r.IntN(3) == 0 {
				d.Flush()
				d.Crash([]int{odd(r), odd(r)})
			}
			pound.NewDisk(-odd(r) * odd(r))
			pound.Open(d, odd(r), odd(r))
		}
	}
	if fine < 200 || failed < 1000 {
		t.Errorf("%d calls succeeded, %d failed", fine, failed)
	}
}

// R4: what a reeve tells depends only on the calls before.
func TestSameAgain(t *testing.T) {
	run := func(seed uint64) string {
		w := newWorld(t, random(seed), 5, 700)
		s := ""
		for range 300 {
			w.step(true)
			s += fmt.Sprint(w.mail)
		}
		for _, o := range w.officers {
			s += stateOf(o.reeve, 0, 1, 2, w.now)
		}
		return s
	}
	for seed := range uint64(8) {
		if a, b := run(seed), run(seed); a != b {
			t.Errorf("the same calls have other results: %.300s, %.300s", a, b)
		}
	}
}

// R4: two reeves on disks of their own have nothing to do with each other.
func TestApart(t *testing.T) {
	l, _ := bench(t, 3, 100)
	empty := stateOf(opened(t, disk(t, 100), 1, 3), 1, 2)
	wants(t, l[0], "ewe", 9, 1)
	_, e := l[0].Charge(api.PostFine, 3, 1, 1, 1)
	mustOK(t, "Charge", e)
	hear(t, l[0], "ask 2 1 cow 9\n", 1, "give 0 2 1\n")
	if got := stateOf(l[1], 1, 2); got != empty {
		t.Errorf("another reeve knows %s", got)
	}
}

// R3: results are new memory, and what is kept is copied.
func TestNewMemory(t *testing.T) {
	d := disk(t, 64)
	b := []byte("abc")
	mustOK(t, "Write", d.Write(9, b))
	b[0] = 'x'
	reads(t, d, 9, "abc")
	mustOK(t, "Flush", d.Flush())
	read, _ := d.Read(9)
	read[1] = 'y'
	reads(t, d, 9, "abc")
	d.Crash(nil)
	reads(t, d, 9, "abc")

	w := newWorld(t, random(33), 3, 4000)
	for range 300 {
		w.step(false)
	}
	for at, o := range w.officers {
		x := o.reeve
		before := stateOf(x, w.now)
		for _, twice := range []bool{false, true} {
			asks, promises, holds, roll, letters := x.Asks(), x.Promises(w.now), x.Holds(w.now), x.Roll(), x.Letters(w.now)
			_, _, _, _, _ = append(asks, api.Request{Number: 7}), append(promises, api.Promise{}), append(holds, api.Hold{}), append(roll, api.Posting{}), append(letters, "")
			for i := range asks {
				asks[i] = api.Request{}
			}
			for i := range promises {
				promises[i] = api.Promise{}
			}
			for i := range holds {
				holds[i] = api.Hold{}
			}
			for i := range roll {
				roll[i] = api.Posting{}
			}
			for i := range letters {
				letters[i] = ""
			}
			if got := stateOf(x, w.now); got != before {
				t.Fatalf("results of %d share memory with it (%v): %s", at, twice, got)
			}
		}
	}
	l := posts(t, 3, "0 1 8 fine 3 12 40", "1 1 8 take 0 1 12 30", "2 1 8 take 0 1 12 30")
	refs, e := pound.Unsettled(3, l, 0)
	mustOK(t, "Unsettled", e)
	refs[0] = ref(7, 7)
	if refs, e = pound.Unsettled(3, l, 0); e != api.OK || fmt.Sprint(refs) != "[{1 1} {2 1}]" {
		t.Errorf("Unsettled: %v, error %d", refs, e)
	}
}

// R3: nil and empty slices are equivalent.
func TestNilAndEmpty(t *testing.T) {
	for _, l := range [][]api.Posting{nil, {}} {
		i, e := pound.CheckRoll(3, l)
		owed, none := pound.Owed(3, l, ref(0, 1))
		refs, e2 := pound.Unsettled(5, l, 0)
		balance, e3 := pound.Balance(5, l, 200)
		if got := fmt.Sprint(i, e, owed, none, len(refs), e2, balance, e3); got != "0 0 0 5 0 0 0 0" {
			t.Errorf("of an empty roll: %s", got)
		}
	}
	for _, keep := range [][]int{nil, {}} {
		for _, b := range [][]byte{nil, {}} {
			d := disk(t, 64)
			mustOK(t, "Write", d.Write(3, []byte("abc")))
			mustOK(t, "Write", d.Write(3, b))
			reads(t, d, 3, "")
			mustOK(t, "Flush", d.Flush())
			mustOK(t, "Write", d.Write(3, []byte("abc")))
			d.Crash(keep)
			reads(t, d, 3, "")
		}
	}
}
