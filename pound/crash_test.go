package pound_test

import (
	"bytes"
	"encoding/binary"
	"fmt"
	"math/rand/v2"
	"testing"

	"couchant/api"
	"couchant/pound"
)

// deed is an operation of the reeve 0 of five, and what has to be done before.
type deed struct {
	before []action
	action action
}

// deeds are operations that change something durable, of all kinds.
func deeds() map[string]deed {
	charge := action{name: "Charge", kind: api.PostFine, number: 5, owner: 7, amount: 40, now: 1}
	want := action{name: "Want", tag: "ewe-7", until: 9, now: 1}
	hear := func(text string) action { return action{name: "Hear", text: text, now: 2} }
	var lines []string
	for i := range 10 {
		lines = append(lines, fmt.Sprintf("1 %d 4 fine %d 40 1000000", i+1, 5*i+1))
	}
	return map[string]deed{
		"Want":     {nil, want},
		"Charge":   {nil, charge},
		"Free":     {[]action{want}, action{name: "Free", tag: "ewe-7", now: 2}},
		"Pay":      {[]action{charge}, action{name: "Pay", of: ref(0, 1), amount: 3, now: 2}},
		"Waive":    {[]action{charge}, action{name: "Waive", of: ref(0, 1), amount: 3, now: 2}},
		"take":     {[]action{hear(post(lines[0]))}, action{name: "Pay", of: ref(1, 1), amount: 3, now: 2}},
		"Settle":   {[]action{charge, hear(post("1 1 4 take 0 1 7 30", "1 2 4 take 0 1 7 20"))}, action{name: "Settle", now: 2}},
		"ask":      {nil, hear("ask 1 1 ewe-7 9\n")},
		"again":    {[]action{hear("ask 1 1 ewe-7 9\n")}, hear("ask 1 2 ewe-7 5\n")},
		"give":     {[]action{want, hear("give 3 0 1\n")}, hear("give 2 0 1\n")},
		"freed":    {[]action{hear("ask 1 1 ewe-7 9\n")}, hear("free 1 1 ewe-7\n")},
		"post 1":   {nil, hear(post(lines[:1]...))},
		"post 2":   {nil, hear(post(lines[:2]...))},
		"post 10":  {nil, hear(post(lines...))},
		"post 3+7": {[]action{hear(post(lines[:7]...))}, hear(post(lines...))},
	}
}

// prepare returns a world of five whose reeve 0 has done what comes before a deed.
func prepare(t testing.TB, r *rand.Rand, x deed) *world {
	w := newWorld(t, r, 5, 400)
	w.now = 2
	for _, a := range x.before {
		if got := w.do(0, a); got.e != api.OK {
			t.Fatalf("%+v: %+v", a, got)
		}
	}
	return w
}

// P9.3: wherever the power fails in an operation and whatever is kept of it, it takes effect as a whole or not at all; and the next operations and openings find the disk as it has to be.
func TestPowerFails(t *testing.T) {
	r := random(11)
	for name, x := range deeds() {
		effects := map[string]int{}
		for power := 0; ; power++ {
			for range 30 {
				w := prepare(t, r, x)
				o := w.officers[0]
				mustOK(t, "Stop", o.disk.Stop(power))
				got := w.do(0, x.action)
				if got.e == api.OK {
					o.disk.Crash(w.keeps())
					effects["all"]++
				} else if got.e != api.ErrDown {
					t.Fatalf("%s: %+v", name, got)
				}
				// Further operations have no effect, whether the disk is up again or not.
				if got.e == api.ErrDown {
					for _, a := range []action{x.action, {name: "Want", tag: "late", until: 9, now: 2}, {name: "Charge", kind: api.PostFee, number: 10, owner: 9, amount: 9, now: 2}} {
						if r.IntN(3) == 0 {
							o.disk.Crash(w.keeps())
						}
						if got := a.call(o.reeve); got.e != api.ErrDown {
							t.Fatalf("%s, and then %+v: %+v", name, a, got)
						}
					}
				}
				before := fmt.Sprint(w.seen)
				w.crash(0)
				if got.e == api.ErrDown && before != fmt.Sprint(w.seen) {
					effects["some"] += w.seen["took effect"]
					effects["none"] += w.seen["took none"]
				}
				for range 4 {
					a := w.anything(0)
					if r.IntN(2) == 0 {
						a = x.action
					}
					w.do(0, a)
					if r.IntN(2) == 0 {
						w.crash(0)
					}
				}
				w.askRolls()
			}
			if effects["all"] > 0 {
				break
			}
		}
		if effects["all"] == 0 || effects["some"] == 0 || effects["none"] == 0 {
			t.Errorf("%s took effects: %v", name, effects)
		}
	}
}

// P9.3: power that fails again and again takes no room.
func TestFailuresTakeNoRoom(t *testing.T) {
	r := random(12)
	calls := map[string]int{"Want": 2, "Charge": 2, "ask": 2, "post 10": 12}
	for name := range calls {
		x := deeds()[name]
		w := newWorld(t, r, 5, 64)
		w.now = 2
		for range 200 {
			mustOK(t, "Stop", w.officers[0].disk.Stop(0))
			if got := w.do(0, x.action); got.e != api.ErrDown {
				t.Fatalf("%s: %+v", name, got)
			}
			w.crash(0)
			// At most the last byte of the record is missing.
			mustOK(t, "Stop", w.officers[0].disk.Stop(1+r.IntN(calls[name]-1)))
			if got := x.action.call(w.officers[0].reeve); got.e == api.OK {
				t.Fatalf("%s: %+v", name, got)
			}
			w.officers[0].disk.Crash([]int{63, 63, 63, 63, 63, 63, 63, 63, 63, 63, 63})
			w.officers[0].reeve = opened(t, w.officers[0].disk, 0, 5)
			w.compare(0)
		}
		for _, tag := range []string{"a", "b", "c", "d"} { // 32 is half of 64
			if _, e := w.officers[0].reeve.Want(tag, 9, 2); e != api.OK {
				t.Errorf("%s: Want: error %d", name, e)
			}
		}
	}
}

// The costs: ErrFull does not come before half the sectors are used up, and changes nothing.
func TestFull(t *testing.T) {
	r := random(13)
	full := 0
	for sectors := 64; sectors < 160; sectors += 1 + r.IntN(20) {
		w := newWorld(t, r, 3, sectors)
		for range 250 {
			a := action{name: "Want", tag: pick(r, tags()...), until: 9, now: 2}
			if r.IntN(2) == 0 {
				var lines []string
				for i := range 1 + r.IntN(10) {
					number := w.officers[0].model.has(1) + i + 1
					lines = append(lines, fmt.Sprintf("1 %d 4 fine %d 40 1000000", number, 3*number+1))
				}
				a = action{name: "Hear", text: post(lines...), now: 2}
			}
			got := w.do(0, a) // which compares the costs
			if got.e == api.ErrFull {
				full++
				// What needs no room goes on.
				w.do(0, action{name: "Hear", text: "have 0 0 0\n", now: 2})
			}
			if r.IntN(30) == 0 {
				w.crash(0)
			}
			if got.e == api.ErrLimit || w.officers[0].model.has(1) > 280 {
				break
			}
		}
	}
	if full < 100 {
		t.Errorf("full %d times", full)
	}
}

// J8: power that fails while a disk is opened for the first time.
func TestOpenWithoutPower(t *testing.T) {
	r := random(14)
	failed, fine := 0, 0
	for range 300 {
		n := pick(r, 3, 5)
		reeve := r.IntN(n)
		d := disk(t, 64)
		done := false
		for !done {
			mustOK(t, "Stop", d.Stop(r.IntN(4)))
			// As long as nobody was opened, anybody can be.
			if r.IntN(2) == 0 {
				n = pick(r, 3, 5)
				reeve = r.IntN(n)
			}
			x, e := pound.Open(d, reeve, n)
			if (x == nil) != (e != api.OK) || e != api.OK && e != api.ErrDown {
				t.Fatalf("Open: error %d", e)
			}
			done = e == api.OK
			if !done {
				failed++
				d.Crash([]int{pick(r, 0, 1, 6, 7, 8, 9, 10, 58, 59, 63, r.IntN(64))})
			}
		}
		fine++
		d.Crash(nil)
		x := opened(t, d, reeve, n)
		wants(t, x, "ewe", 9, 2)
		d.Crash(nil)
		if got := fmt.Sprint(opened(t, d, reeve, n).Asks()); got != "[{1 ewe 9}]" {
			t.Errorf("Asks: %s", got)
		}
	}
	// A first opening that took effect all the same belongs to its reeve.
	d := disk(t, 64)
	mustOK(t, "Stop", d.Stop(1))
	if _, e := pound.Open(d, 1, 3); e != api.ErrDown {
		t.Errorf("Open: error %d", e)
	}
	d.Crash([]int{64})
	opened(t, d, 1, 3)
	if failed < 100 || fine < 100 {
		t.Errorf("%d failed, %d fine", failed, fine)
	}
}

// journal returns a disk with a journal of the reeve 0 of five, and what the reeve knows.
func journal(t testing.TB) (*pound.Disk, string) {
	t.Helper()
	w := newWorld(t, random(15), 5, 400)
	w.now = 2
	for _, name := range []string{"Want", "Charge", "Pay", "ask", "again", "Free", "post 10", "give", "Settle"} {
		for _, a := range append(deeds()[name].before, deeds()[name].action) {
			w.do(0, a)
		}
	}
	return w.officers[0].disk, w.officers[0].model.state(1, 2, 3)
}

// J8: a disk with something else is spoilt, wherever that stands.
func TestSpoilt(t *testing.T) {
	junk := bytes.Repeat([]byte{0xa5}, 64)
	for _, sector := range []int{0, 1, 2, 31, 63} {
		for _, b := range [][]byte{junk, []byte("hello"), {0, 0, 1}, append(make([]byte, 63), 1), append(make([]byte, 63), 2)} {
			d := disk(t, 64)
			mustOK(t, "Write", d.Write(sector, b))
			if r, e := pound.Open(d, 0, 3); r != nil || e != api.ErrSpoilt {
				t.Errorf("Open of a disk with %q in the sector %d: error %d", b, sector, e)
			}
		}
	}
	d, state := journal(t)
	if got := stateOf(opened(t, d, 0, 5), 1, 2, 3); got != state {
		t.Fatalf("the journal tells %s, want %s", got, state)
	}
	var records [][]byte
	for sector := range 400 {
		b, e := d.Read(sector)
		mustOK(t, "Read", e)
		records = append(records, b)
	}
	used := 0
	for sector, b := range records {
		if !bytes.Equal(b, make([]byte, 64)) {
			used = sector + 1
		}
	}
	if used < 15 {
		t.Fatalf("%d sectors are used", used)
	}
	spoils := func(what string, sector int, b []byte) {
		t.Helper()
		mustOK(t, "Write", d.Write(sector, b))
		r, e := pound.Open(d, 0, 5)
		// The last record, without its mark, is one that was never finished.
		if e != api.ErrSpoilt && !(sector == used-1 && b[63] == 0) {
			t.Errorf("%s in the sector %d: error %d", what, sector, e)
		}
		if (r == nil) != (e != api.OK) {
			t.Errorf("%s in the sector %d: a reeve with error %d", what, sector, e)
		}
		mustOK(t, "Write", d.Write(sector, records[sector]))
	}
	for sector := range used {
		spoils("junk", sector, junk)
		spoils("another sector", sector, records[(sector+1)%used])
		for at := range 64 {
			b := bytes.Clone(records[sector])
			b[at] ^= byte(1 + random(uint64(64*sector+at)).IntN(255))
			spoils(fmt.Sprintf("another byte %d", at), sector, b)
		}
	}
	for sector := used + 10; sector < 400; sector += 7 {
		spoils("something far behind", sector, []byte("x"))
	}
	if got := stateOf(opened(t, d, 0, 5), 1, 2, 3); got != state {
		t.Fatalf("the journal tells %s, want %s", got, state)
	}
}

// sums returns the sectors of a journal as the reeves write it, with one record of some lines each.
func sums(records ...[]string) [][]byte {
	sum, l := uint32(2166136261), [][]byte{}
	for _, lines := range records {
		for i, line := range lines {
			b := make([]byte, 64)
			copy(b, line)
			b[58], b[63] = byte(len(lines)-1-i), byte(min(i+1, 2))
			for _, x := range b[:59] {
				sum = (sum ^ uint32(x)) * 16777619
			}
			binary.LittleEndian.PutUint32(b[59:63], sum)
			l = append(l, b)
		}
	}
	return l
}

// R1, J8: a journal whose sums are right, but which no reeve writes.
func TestCrafted(t *testing.T) {
	head := []string{"reeve 0 3"}
	for _, x := range []struct {
		e       api.Errno
		records [][]string
	}{
		{api.OK, [][]string{head, {"want ewe 9 2"}, {"grant 1 3"}, {"let ewe 4"}, {"ask 1 1 cow 9 2"}, {"free 1 1 cow"}, {"0 1 2 fine 3 1 1"}, {"1 1 2 fine 1 1 1", "1 2 2 fine 4 1 1"}}},
		{api.ErrSpoilt, [][]string{{"reeve 1 3"}}},
		{api.ErrSpoilt, [][]string{{"reeve 0 5"}}},
		{api.ErrSpoilt, [][]string{head, {""}}},
		{api.ErrSpoilt, [][]string{head, {"reeve 0 3"}}},
		{api.ErrSpoilt, [][]string{head, {"want ewe 9"}}},
		{api.ErrSpoilt, [][]string{head, {"want ewe 9 2 2"}}},
		{api.ErrSpoilt, [][]string{head, {"want ewe 09 2"}}},
		{api.ErrSpoilt, [][]string{head, {"want Ewe 9 2"}}},
		{api.ErrSpoilt, [][]string{head, {"want ewe 2 9"}}},
		{api.ErrSpoilt, [][]string{head, {"let ewe 9"}}},
		{api.ErrSpoilt, [][]string{head, {"grant 1 1"}}},
		{api.ErrSpoilt, [][]string{head, {"grant 0 1"}}},
		{api.ErrSpoilt, [][]string{head, {"want ewe 9 2"}, {"grant 1 10"}}},
		{api.ErrSpoilt, [][]string{head, {"want ewe 9 2"}, {"grant 1 3"}, {"grant 1 3"}}},
		{api.ErrSpoilt, [][]string{head, {"ask 0 1 ewe 9 2"}}},
		{api.ErrSpoilt, [][]string{head, {"ask 3 1 ewe 9 2"}}},
		{api.ErrSpoilt, [][]string{head, {"ask 1 1 ewe 9 10"}}},
		{api.ErrSpoilt, [][]string{head, {"want ewe 9 2"}, {"ask 1 1 ewe 9 2"}}},
		{api.ErrSpoilt, [][]string{head, {"free 1 1 ewe"}}},
		{api.ErrSpoilt, [][]string{head, {"0 2 2 fine 3 1 1"}}},
		{api.ErrSpoilt, [][]string{head, {"0 1 2 pay 1 1 1"}}},
		{api.ErrSpoilt, [][]string{head, {"0 1 2 fine 3 1 1", "0 2 2 pay 1 2 1"}}},
		{api.ErrSpoilt, [][]string{head, {"1 1 2 fine 3 1 1"}}},
	} {
		d := disk(t, 64)
		for sector, b := range sums(x.records...) {
			mustOK(t, "Write", d.Write(sector, b))
		}
		if r, e := pound.Open(d, 0, 3); e != x.e || (r == nil) != (e != api.OK) {
			t.Errorf("Open of %q: error %d, want %d", x.records, e, x.e)
		}
	}
	// A record for which the disk is too short.
	var lines []string
	for i := range 10 {
		lines = append(lines, fmt.Sprintf("1 %d 2 fine %d 1 1", i+1, 3*i+1))
	}
	records := [][]string{head}
	for i := range 59 {
		records = append(records, []string{fmt.Sprintf("want ewe-%d 9 2", i)})
	}
	d := disk(t, 64)
	for sector, b := range sums(append(records, lines)...)[:64] {
		mustOK(t, "Write", d.Write(sector, b))
	}
	if r, e := pound.Open(d, 0, 3); r != nil || e != api.ErrSpoilt {
		t.Errorf("Open: error %d", e)
	}
}

// P9.3: of operations that returned ErrDown only the first one since the opening can have taken effect, also if the disk was down before that one.
func TestOnlyTheFirst(t *testing.T) {
	d := disk(t, 64)
	r := opened(t, d, 0, 3)
	mustOK(t, "Stop", d.Stop(0))
	if e := d.Flush(); e != api.ErrDown {
		t.Errorf("Flush: error %d", e)
	}
	if _, e := r.Want("ewe", 9, 2); e != api.ErrDown {
		t.Errorf("Want: error %d", e)
	}
	d.Crash(nil)
	mustOK(t, "Stop", d.Stop(1))
	if _, e := r.Want("cow", 9, 2); e != api.ErrDown {
		t.Errorf("Want: error %d", e)
	}
	d.Crash([]int{64, 64})
	if got := opened(t, d, 0, 3).Asks(); len(got) != 0 {
		t.Errorf("Asks: %v", got)
	}
}

// R1, J8: no disk makes Open panic; a journal on a greater disk is the same one.
func TestOpenAtRandom(t *testing.T) {
	r := random(16)
	old, state := journal(t)
	spoilt := 0
	for i := range 400 {
		d := disk(t, 500)
		for sector := range 400 {
			b, e := old.Read(sector)
			mustOK(t, "Read", e)
			mustOK(t, "Write", d.Write(sector, b))
		}
		for range i % 4 {
			b, e := old.Read(r.IntN(40))
			mustOK(t, "Read", e)
			for range r.IntN(4) {
				b[r.IntN(64)] = byte(r.IntN(256))
			}
			mustOK(t, "Write", d.Write(r.IntN(45), b))
		}
		x, e := pound.Open(d, 0, 5)
		if e == api.ErrSpoilt {
			spoilt++
		} else if e != api.OK || i%4 == 0 && stateOf(x, 1, 2, 3) != state {
			t.Errorf("Open: error %d", e)
		}
	}
	if spoilt < 100 {
		t.Errorf("%d spoilt", spoilt)
	}
}

// P9.3: what does not change anything durable goes on without a disk, also behind an operation that failed.
func TestWithoutDisk(t *testing.T) {
	d := disk(t, 100)
	r := opened(t, d, 0, 5)
	wants(t, r, "ewe-7", 9, 2)
	_, e := r.Charge(api.PostFine, 5, 7, 40, 2)
	mustOK(t, "Charge", e)
	hear(t, r, "ask 1 1 cow 9\n", 2, "give 0 1 1\n")
	hear(t, r, post("1 1 4 fine 1 40 100"), 2, "have 1 1 0 0 0\n")
	mustOK(t, "Stop", d.Stop(0))
	for _, failed := range []bool{false, true, true} {
		if failed {
			if _, e := r.Want("ram", 9, 2); e != api.ErrDown {
				t.Errorf("Want: error %d", e)
			}
		}
		hear(t, r, "have 0 0 0 0 0\n", 3, post("0 1 2 fine 5 7 40", "1 1 4 fine 1 40 100"))
		hear(t, r, "have 2 1 0 0 0\n", 3, "have 1 1 0 0 0\n")
		hear(t, r, "ask 1 1 cow 9\n", 3, "give 0 1 1\n")
		hear(t, r, "ask 1 1 cow 7\n", 3, "give 0 1 1\n")
		hear(t, r, "ask 2 1 cow 9\n", 3, "")
		hear(t, r, "free 2 1 cow\n", 3, "")
		hear(t, r, post("1 1 4 fine 1 40 100"), 3, "")
		hear(t, r, "give 4 0 1\n", 3, "") // one of two
		refuses(t, r, "give 4 3 1\n", 3, api.ErrState)
		refuses(t, r, "nonsense\n", 3, api.ErrForm)
		if _, e := r.Want("cow", 9, 3); e != api.ErrHeld {
			t.Errorf("Want: error %d", e)
		}
		if e := r.Free("cow", 3); e != api.ErrNone {
			t.Errorf("Free: error %d", e)
		}
		if _, e := r.Charge(api.PostFine, 5, 7, 40, 2); e != api.ErrTwice {
			t.Errorf("Charge: error %d", e)
		}
		if _, e := r.Pay(ref(0, 1), 41, 2); e != api.ErrState {
			t.Errorf("Pay: error %d", e)
		}
		if _, e := r.Settle(2); e != api.ErrNone {
			t.Errorf("Settle: error %d", e)
		}
	}
	for _, text := range []string{"ask 1 1 cow 10\n", "ask 3 1 hog 10\n", "free 1 1 cow\n", post("1 2 4 fine 6 40 100"), "give 2 0 1\n"} {
		refuses(t, r, text, 3, api.ErrDown)
	}
	if got := fmt.Sprint(r.Asks(), r.Promises(3), r.Holds(3), r.Have()); got != "[{1 ewe-7 9}] [{cow 1 1 9} {ewe-7 0 1 9}] [] {[1 1 0 0 0]}" {
		t.Errorf("the reeve knows %s", got)
	}
	d.Crash(nil)
	// The one that was heard before is forgotten.
	r = opened(t, d, 0, 5)
	hear(t, r, "give 2 0 1\n", 3, "")
	hear(t, r, "give 4 0 1\n", 4, "")
	if got := fmt.Sprint(r.Holds(4)); got != "[{ewe-7 4 9 1}]" {
		t.Errorf("Holds: %s", got)
	}
}

// P9.3: a give that cannot be made durable does not count, and the next one grants the request.
func TestGiveOnFullDisk(t *testing.T) {
	d := disk(t, 64)
	r := opened(t, d, 0, 5)
	number := wants(t, r, "ewe-7", 9, 2)
	full := false
	for i := 0; !full; i++ {
		text, e := r.Hear(fmt.Sprintf("ask 1 %d %s %d\n", i+1, tags()[1], 9), 3)
		full = e == api.ErrFull
		if full != (text == "") || !full && e != api.OK || i > 250 {
			t.Fatalf("Hear: %q, error %d", text, e)
		}
	}
	hear(t, r, fmt.Sprintf("give 3 0 %d\n", number), 3, "")
	for range 3 {
		refuses(t, r, fmt.Sprintf("give 2 0 %d\n", number), 3, api.ErrFull)
		if len(r.Holds(3)) != 0 || len(r.Asks()) != 1 {
			t.Errorf("Holds: %v, Asks: %v", r.Holds(3), r.Asks())
		}
	}
	if _, e := r.Want("ram", 9, 3); e != api.ErrFull {
		t.Errorf("Want: error %d", e)
	}
	if e := r.Free("ewe-7", 3); e != api.ErrFull {
		t.Errorf("Free: error %d", e)
	}
	if _, e := r.Charge(api.PostFine, 5, 7, 40, 2); e != api.ErrFull {
		t.Errorf("Charge: error %d", e)
	}
	d.Crash(nil)
	if got, want := stateOf(opened(t, d, 0, 5), 3), stateOf(r, 3); got != want {
		t.Errorf("opened: %s, want %s", got, want)
	}
}
