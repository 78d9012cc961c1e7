package manor_test

import (
	"fmt"
	"math/rand/v2"
	"slices"
	"strings"
	"testing"

	"couchant/api"
	"couchant/manor"
	"couchant/pound"
)

// command is a command to a manor, or to its model.
type command struct {
	name string
	n    [4]int
	text string
	keep []int
}

// outcome is what a command returns.
type outcome struct {
	n int
	e api.Errno
}

// of lets a manor do a command.
func (c command) of(m *manor.Manor) outcome {
	n := c.n
	var x outcome
	switch c.name {
	case "write":
		x.e = m.Write(c.text)
	case "want":
		x.n, x.e = m.Want(n[0], c.text, n[1])
	case "free":
		x.e = m.Free(n[0], c.text)
	case "charge":
		x.n, x.e = m.Charge(n[0])
	case "fee":
		x.n, x.e = m.Fee(n[0], n[1], n[2], n[3])
	case "pay":
		x.n, x.e = m.Pay(n[0], api.Ref{Reeve: n[1], Number: n[2]}, n[3])
	case "waive":
		x.n, x.e = m.Waive(n[0], api.Ref{Reeve: n[1], Number: n[2]}, n[3])
	case "settle":
		x.n, x.e = m.Settle(n[0])
	case "send":
		x.e = m.Send(n[0], n[1])
	case "carry":
		x.e = m.Carry(n[0], n[1], n[2])
	case "lose":
		x.e = m.Lose(n[0], n[1], n[2])
	case "repeat":
		x.e = m.Repeat(n[0], n[1], n[2])
	case "stop":
		x.e = m.Stop(n[0], n[1])
	case "crash":
		x.e = m.Crash(n[0], c.keep)
	default:
		panic(c.name)
	}
	return x
}

// model is a manor in the chapter's words: the reeves of layer 9, their disks and lines, and a clerk, a manor of which only the transcript is used.
type model struct {
	clerk  *manor.Manor
	reeves []*pound.Reeve
	disks  []*pound.Disk
	lines  map[string][]string
}

func newModel(t testing.TB, s api.Setup) *model {
	t.Helper()
	clerk, e := manor.New(s)
	mustOK(t, "New", e)
	w := &model{clerk: clerk, lines: map[string][]string{}}
	for i := range s.Reeves {
		d, e := pound.NewDisk(s.Sectors)
		mustOK(t, "NewDisk", e)
		r, e := pound.Open(d, i, s.Reeves)
		mustOK(t, "Open", e)
		w.disks, w.reeves = append(w.disks, d), append(w.reeves, r)
	}
	return w
}

func (w *model) do(c command) outcome {
	n, now := c.n, w.clerk.Today()
	has := func(i int) bool { return i >= 0 && i < len(w.reeves) }
	var x outcome
	switch c.name {
	case "write":
		x.e = w.clerk.Write(c.text)
		return x
	case "charge":
		return w.charge(n[0])
	case "send":
		return outcome{e: w.send(n[0], n[1])}
	case "carry", "lose", "repeat":
		return outcome{e: w.message(c.name, n[0], n[1], n[2])}
	}
	if !has(n[0]) {
		return outcome{e: api.ErrArg}
	}
	r := w.reeves[n[0]]
	switch c.name {
	case "want":
		x.n, x.e = r.Want(c.text, n[1], now)
	case "free":
		x.e = r.Free(c.text, now)
	case "fee":
		x.n, x.e = r.Charge(api.PostFee, n[1], n[2], n[3], now)
	case "pay":
		x.n, x.e = r.Pay(api.Ref{Reeve: n[1], Number: n[2]}, n[3], now)
	case "waive":
		x.n, x.e = r.Waive(api.Ref{Reeve: n[1], Number: n[2]}, n[3], now)
	case "settle":
		x.n, x.e = r.Settle(now)
	case "stop":
		x.e = w.disks[n[0]].Stop(n[1])
	case "crash":
		w.disks[n[0]].Crash(c.keep)
		w.reeves[n[0]], x.e = pound.Open(w.disks[n[0]], n[0], len(w.reeves))
	}
	return x
}

func (w *model) charge(id int) outcome {
	b := w.clerk.Books()
	d := docketOf(b)
	switch {
	case d.state[id] == 0:
		return outcome{e: api.ErrNone}
	case d.state[id] != api.CaseFined || d.judgment[id].Amount == 0:
		return outcome{e: api.ErrState}
	}
	n, e := w.reeves[id%len(w.reeves)].Charge(api.PostFine, id, d.complaint[id].Owner, d.judgment[id].Amount, w.clerk.Today())
	return outcome{n: n, e: e}
}

// key names a line.
func key(from, to int) string { return fmt.Sprint(from, " to ", to) }

// put puts a message on a line, unless 100 are on it.
func (w *model) put(from, to int, m string) {
	if l := w.lines[key(from, to)]; len(l) < 100 {
		w.lines[key(from, to)] = append(l, m)
	}
}

func (w *model) send(from, to int) api.Errno {
	n := len(w.reeves)
	switch {
	case from < 0 || from >= n || to < 0 || to >= n || from == to:
		return api.ErrArg
	case w.disks[from].Down():
		return api.ErrDown
	case len(w.lines[key(from, to)]) == 100:
		return api.ErrFull
	}
	for _, m := range w.reeves[from].Letters(w.clerk.Today()) {
		w.put(from, to, m)
	}
	return api.OK
}

// message carries, loses or repeats a message.
func (w *model) message(name string, from, to, i int) api.Errno {
	l := w.lines[key(from, to)]
	if i < 0 || i >= len(l) {
		return api.ErrNone
	}
	m, rest := l[i], append(slices.Clone(l[:i]), l[i+1:]...)
	switch name {
	case "lose":
		w.lines[key(from, to)] = rest
	case "repeat":
		if len(l) == 100 {
			return api.ErrFull
		}
		w.put(from, to, m)
	case "carry":
		if w.disks[to].Down() {
			return api.ErrDown
		}
		w.lines[key(from, to)] = rest
		answer, e := w.reeves[to].Hear(m, w.clerk.Today())
		if answer != "" {
			w.put(to, from, answer)
		}
		return e
	}
	return api.OK
}

// rolls returns what reeves can be asked.
func (w *model) rolls() string {
	var b strings.Builder
	for _, r := range w.reeves {
		fmt.Fprintln(&b, r.Roll(), r.Holds(w.clerk.Today()), r.Promises(w.clerk.Today()))
	}
	return b.String()
}

func rollsOf(m *manor.Manor, n int) string {
	var b strings.Builder
	for i := range n {
		fmt.Fprintln(&b, m.Roll(i), m.Holds(i), m.Promises(i))
	}
	return b.String()
}

// someCommand returns a command, which often is possible in a manor with n reeves.
func someCommand(r *rand.Rand, n int) command {
	reeve := func() int {
		if r.IntN(40) == 0 {
			return pick(r, -1, n)
		}
		return r.IntN(n)
	}
	c := command{name: "carry", n: [4]int{reeve(), reeve(), pick(r, 0, 0, 0, 0, 1, r.IntN(4), -1), 0}}
	switch k := r.IntN(100); {
	case k < 8:
		c = command{name: "want", n: [4]int{reeve(), r.IntN(90)}, text: pick(r, "ewe-7", "ewe-7", "cow", "Cow")}
	case k < 12:
		c = command{name: "free", n: [4]int{reeve()}, text: pick(r, "ewe-7", "ewe-7", "cow", "")}
	case k < 16:
		c = command{name: "charge", n: [4]int{r.IntN(12)}}
	case k < 20:
		c = command{name: "fee", n: [4]int{reeve(), r.IntN(8), pick(r, 7, 8, 41), r.IntN(50)}}
	case k < 29:
		c = command{name: pick(r, "pay", "pay", "waive"), n: [4]int{reeve(), r.IntN(n), 1 + r.IntN(2), r.IntN(12)}}
	case k < 34:
		c = command{name: "settle", n: [4]int{reeve()}}
	case k < 48:
		c.name = "send"
	case k < 52:
		c.name = "lose"
	case k < 57:
		c.name = "repeat"
	case k < 59:
		c = command{name: "stop", n: [4]int{reeve(), pick(r, 0, 1, 2, 3, 5, -1)}}
	case k < 63:
		c = command{name: "crash", n: [4]int{reeve()}}
		for range r.IntN(4) {
			c.keep = append(c.keep, pick(r, 0, 64, r.IntN(64), -5, 99))
		}
	}
	return c
}

// begin returns texts that let the cases 1 to 6 be judged, the most of them as fines.
func begin() []string {
	l := []string{"table equal sheep 0 1 4", "deed 0 enter 7 5040", "report stay 7 sheep high 1 20 24", "report stay 7 sheep low 1 0 0", "step complain 7 1 over", "step complain 7 1 over", "step complain 8 1 over", "step complain 7 1 over", "step complain 7 2 over", "step complain 7 1 over"}
	for i := range 6 {
		l = append(l, fmt.Sprint("step summon ", i+1))
	}
	return append(l, "day 21", "judge 1", "judge 2", "judge 3", "judge 4", "judge 5")
}

// K11 to K14: manors against the model, with random commands.
func TestManorAsModel(t *testing.T) {
	r := random(7)
	outcomes := map[string]int{}
	for range 60 {
		s := setupS()
		s.Reeves = pick(r, 3, 3, 5)
		s.Sectors = pick(r, 1000, 4000)
		m, e := manor.New(s)
		mustOK(t, "New", e)
		w := newModel(t, s)
		for _, text := range begin() {
			c := command{name: "write", text: text}
			if x := c.of(m); x.e != api.OK || w.do(c).e != api.OK {
				t.Fatalf("%q: %d", text, x.e)
			}
		}
		var done []command
		for range 600 {
			c := someCommand(r, s.Reeves)
			if r.IntN(40) == 0 {
				c = command{name: "write", text: pick(r, fmt.Sprint("day ", m.Today()+r.IntN(3)), "judge 6", "report void 1", "step reopen 1", "note x")}
			}
			done = append(done, c)
			got, want := c.of(m), w.do(c)
			outcomes[fmt.Sprint(c.name, " ", int(got.e))]++
			if got != want {
				t.Fatalf("%+v: %v, want %v, behind %+v", c, got, want, done)
			}
			if got, want := rollsOf(m, s.Reeves), w.rolls(); got != want {
				t.Fatalf("behind %+v: %s, want %s", done, got, want)
			}
		}
		if got, want := m.Entries(), w.clerk.Entries(); !slices.Equal(got, want) {
			t.Fatalf("Entries %q, want %q", bodies(got), bodies(want))
		}
	}
	for _, key := range []string{
		"want 0", "want 1", "want 93", "want 90", "free 0", "free 5", "free 1", "charge 0", "charge 5", "charge 6", "charge 8", "charge 90", "fee 0", "fee 1", "fee 94", "fee 6", "pay 0", "pay 5", "pay 8", "waive 0", "waive 94", "waive 8",
		"settle 0", "settle 5", "send 0", "send 1", "send 90", "carry 0", "carry 5", "carry 90", "lose 0", "lose 5", "repeat 0", "repeat 5", "stop 0", "stop 1", "stop 90", "crash 0", "crash 1",
	} {
		if outcomes[key] == 0 {
			t.Errorf("never: %s", key)
		}
	}
}

// The examples of the chapter, as calls.
func TestChapterReeves(t *testing.T) {
	m := newManor(t, 3)
	answersTo(t, m, "step complain 7 1 over", api.OK)
	calls := []struct {
		c command
		x outcome
	}{
		{command{name: "charge", n: [4]int{1}}, outcome{e: api.ErrState}}, {command{name: "want", text: "ewe-7", n: [4]int{0, 9}}, outcome{n: 1}}, {command{name: "send", n: [4]int{0, 1}}, outcome{}},
		{command{name: "carry", n: [4]int{0, 1, 0}}, outcome{}}, {command{name: "carry", n: [4]int{0, 1, 0}}, outcome{}}, {command{name: "carry", n: [4]int{1, 0, 0}}, outcome{}},
	}
	for _, x := range calls {
		if got := x.c.of(m); got != x.x {
			t.Errorf("%+v: %v, want %v", x.c, got, x.x)
		}
	}
	if l := m.Holds(0); !slices.Equal(l, []api.Hold{{Tag: "ewe-7", Until: 9, Number: 1}}) {
		t.Errorf("Holds: %v", l)
	}
	if l := m.Promises(1); !slices.Equal(l, []api.Promise{{Tag: "ewe-7", Number: 1, Until: 9}}) {
		t.Errorf("Promises: %v", l)
	}
	answersTo(t, m, "day 10", api.OK)
	if len(m.Holds(0))+len(m.Promises(1)) > 0 {
		t.Error("a hold and a promise beyond their Until")
	}
	if n, e := m.Fee(1, 4, 12, 40); n != 1 || e != api.OK {
		t.Errorf("Fee: %d, %d", n, e)
	}
	if n, e := m.Fee(0, 4, 12, 40); n != 0 || e != api.ErrHome {
		t.Errorf("Fee: %d, %d", n, e)
	}
	if l := m.Roll(1); len(l) != 1 || l[0] != (api.Posting{Reeve: 1, Number: 1, Tick: 10, Kind: api.PostFee, Case: 4, Owner: 12, Amount: 40}) {
		t.Errorf("Roll: %v", l)
	}
}

// K10: what a manor can be made of.
func TestNew(t *testing.T) {
	for _, x := range []struct {
		reeves, sectors int
		e               api.Errno
	}{
		{3, 1000, api.OK}, {5, 65536, api.OK}, {3, 999, api.ErrArg}, {3, 65537, api.ErrArg}, {3, -1, api.ErrArg}, {4, 1000, api.ErrArg}, {0, 1000, api.ErrArg}, {-3, 1000, api.ErrArg}, {6, 1000, api.ErrArg}, {1, 1000, api.ErrArg},
	} {
		for _, fell := range []string{fellS, "x"} {
			s := setupS()
			s.Reeves, s.Sectors, s.Fell = x.reeves, x.sectors, fell
			want := x.e
			if fell == "x" && want == api.OK {
				want = api.ErrForm
			}
			m, e := manor.New(s)
			if e != want || (m == nil) != (e != api.OK) {
				t.Errorf("New(%d, %d, %.5q): %v, %d", x.reeves, x.sectors, fell, m, e)
			}
		}
	}
	s := setupS()
	s.House = api.Rate{Misses: 3, Doubles: 5}
	m, e := manor.New(s)
	mustOK(t, "New", e)
	l := m.Entries()
	want := []string{fellS, "fine over when use > stints pays 12 * max(0, (use - stints))\n", "house 3 5"}
	if !slices.Equal(bodies(l), want) || m.Today() != 0 || len(m.Roll(0)) > 0 || m.Books().House != s.House {
		t.Errorf("Entries: %q", bodies(l))
	}
	for i, x := range l {
		if x.Kind != uint8(i+1) || x.Day != 0 || x.Seq != i {
			t.Errorf("entry %d: %+v", i, x)
		}
	}
}

// K11: what the home of a case charges, and the order of the errors.
func TestCharge(t *testing.T) {
	for _, n := range []int{3, 5} {
		m := newManor(t, n)
		for _, text := range begin() {
			answersTo(t, m, text, api.OK)
		}
		// 12 * (20 / 4 - 1) for the owner 7; the owner 8 has no sheep for sure, and at the tick 2 nothing is known.
		for id, want := range map[int]outcome{0: {e: api.ErrNone}, -1: {e: api.ErrNone}, 7: {e: api.ErrNone}, 18: {e: api.ErrNone}, 3: {e: api.ErrState}, 5: {e: api.ErrState}, 6: {e: api.ErrState}, 1: {n: 1}, 2: {n: 1}} {
			if got := (command{name: "charge", n: [4]int{id}}).of(m); got != want {
				t.Errorf("Charge(%d): %v, want %v", id, got, want)
			}
		}
		if l := m.Roll(1 % n); !slices.Equal(l, []api.Posting{{Reeve: 1, Number: 1, Tick: 21, Kind: api.PostFine, Case: 1, Owner: 7, Amount: 48}}) {
			t.Errorf("Roll: %v", l)
		}
		answersTo(t, m, "day 22", api.OK, "report stay 7 sheep high 1 24 24", api.OK, "step reopen 1", api.OK)
		if _, e := m.Charge(1); e != api.ErrState {
			t.Errorf("Charge of a case that is open again: %d", e)
		}
		answersTo(t, m, "judge 1", api.OK, "step reopen 4", api.OK, "judge 4", api.OK, "day 25", api.OK)
		if _, e := m.Charge(1); e != api.ErrTwice {
			t.Errorf("Charge of a case a second time: %d", e)
		}
		home := 4 % n
		mustOK(t, "Stop", m.Stop(home, 0))
		if _, e := m.Charge(4); e != api.ErrDown {
			t.Errorf("Charge without power: %d", e)
		}
		if _, e := m.Charge(3); e != api.ErrState {
			t.Errorf("Charge of a case that is no fine, without power: %d", e)
		}
		mustOK(t, "Crash", m.Crash(home, nil))
		if _, e := m.Charge(4); e != api.OK {
			t.Errorf("Charge with power again: %d", e)
		}
		if l := m.Roll(home); l[len(l)-1] != (api.Posting{Reeve: home, Number: len(l), Tick: 25, Kind: api.PostFine, Case: 4, Owner: 7, Amount: 60}) {
			t.Errorf("Roll: %v", l)
		}
	}
	// A sure fine of nothing is not charged.
	s := setupS()
	s.Rules = "fine over when 0 < 1 pays 1/2\n"
	m, e := manor.New(s)
	mustOK(t, "New", e)
	answersTo(t, m, "step complain 7 1 over", api.OK, "step summon 1", api.OK, "day 21", api.OK, "judge 1", api.OK)
	if manor.Case(m.Books(), 1) != api.CaseFined {
		t.Error("Case of a fine of nothing")
	}
	if _, e := m.Charge(1); e != api.ErrState {
		t.Errorf("Charge of nothing: %d", e)
	}
}

// K12: lines, what is on them and how much, and the order of the errors.
func TestLines(t *testing.T) {
	m := newManor(t, 3)
	do := func(want api.Errno, name string, n ...int) {
		t.Helper()
		c := command{name: name}
		copy(c.n[:], n)
		if got := c.of(m); got != (outcome{e: want}) {
			t.Errorf("%s %v: %v, want %d", name, n, got, want)
		}
	}
	for _, n := range [][]int{{-1, 0}, {3, 0}, {0, -1}, {0, 3}, {0, 0}, {2, 2}, {-1, -1}} {
		do(api.ErrArg, "send", n...)
		for _, name := range []string{"carry", "lose", "repeat"} {
			do(api.ErrNone, name, n[0], n[1], 0)
		}
	}
	do(api.ErrNone, "carry", 0, 1, 0)
	do(api.OK, "send", 0, 1)
	for _, i := range []int{-1, 1, 2} {
		for _, name := range []string{"carry", "lose", "repeat"} {
			do(api.ErrNone, name, 0, 1, i)
		}
	}
	do(api.ErrNone, "carry", 1, 0, 0)
	for range 99 {
		do(api.OK, "repeat", 0, 1, 0)
	}
	do(api.ErrFull, "repeat", 0, 1, 0)
	do(api.ErrNone, "repeat", 0, 1, 100)
	do(api.ErrFull, "send", 0, 1)
	do(api.OK, "lose", 0, 1, 99)
	if _, e := m.Want(0, "ewe", 5); e != api.OK {
		t.Errorf("Want: %d", e)
	}
	do(api.OK, "send", 0, 1)
	do(api.ErrNone, "carry", 0, 1, 100)
	do(api.OK, "carry", 0, 1, 99)
	do(api.ErrNone, "carry", 1, 0, 0)
	do(api.OK, "lose", 0, 1, 98)
	do(api.OK, "lose", 0, 1, 97)
	// There is room for the greeting and the ask now; the promise of the answer is on the line back.
	do(api.OK, "send", 0, 1)
	do(api.OK, "carry", 0, 1, 98)
	do(api.OK, "repeat", 1, 0, 0)
	do(api.OK, "carry", 1, 0, 1)
	if l := m.Holds(0); len(l) != 1 {
		t.Errorf("Holds: %v", l)
	}
	// Another order: the reeve 1 is down.
	mustOK(t, "Stop", m.Stop(1, 0))
	do(api.OK, "send", 1, 2)
	if _, e := m.Want(1, "cow", 5); e != api.ErrDown {
		t.Errorf("Want: %d", e)
	}
	do(api.ErrDown, "send", 1, 2)
	do(api.ErrArg, "send", 1, 1)
	do(api.ErrDown, "carry", 0, 1, 0)
	do(api.ErrNone, "carry", 0, 1, 99)
	do(api.ErrDown, "stop", 1, 0)
	do(api.ErrDown, "stop", 1, -1)
	do(api.ErrArg, "stop", 0, -1)
	do(api.ErrArg, "stop", 3, 0)
	do(api.OK, "lose", 0, 1, 97)
	do(api.OK, "crash", 1)
	do(api.OK, "carry", 0, 1, 0)
	do(api.ErrArg, "crash", -1)
	do(api.OK, "carry", 1, 2, 0)
	do(api.ErrNone, "carry", 1, 2, 0)
}

// K12: a message that a reeve cannot hear is lost; a reeve that is down before does not lose it.
func TestLostMessages(t *testing.T) {
	m := newManor(t, 3)
	if _, e := m.Want(0, "ewe", 5); e != api.OK {
		t.Errorf("Want: %d", e)
	}
	mustOK(t, "Send", m.Send(0, 1))
	mustOK(t, "Stop", m.Stop(1, 1))
	if e := m.Carry(0, 1, 1); e != api.ErrDown {
		t.Errorf("Carry where the power fails: %d", e)
	}
	if e := m.Carry(0, 1, 0); e != api.ErrDown {
		t.Errorf("Carry to a reeve that is down: %d", e)
	}
	mustOK(t, "Crash", m.Crash(1, nil))
	if e := m.Carry(0, 1, 1); e != api.ErrNone {
		t.Errorf("Carry of a message that is lost: %d", e)
	}
	mustOK(t, "Carry", m.Carry(0, 1, 0))
	if len(m.Promises(1)) != 0 {
		t.Errorf("Promises: %v", m.Promises(1))
	}
	// An answer that has no room on the line back is lost, too.
	mustOK(t, "Send", m.Send(0, 1))
	mustOK(t, "Send", m.Send(1, 0))
	for range 99 {
		mustOK(t, "Repeat", m.Repeat(1, 0, 0))
	}
	mustOK(t, "Carry", m.Carry(0, 1, 1))
	if e := m.Carry(1, 0, 100); e != api.ErrNone || len(m.Promises(1)) != 1 {
		t.Errorf("Carry of an answer that had no room: %d", e)
	}
	for range 100 {
		mustOK(t, "Carry", m.Carry(1, 0, 0))
	}
	if len(m.Holds(0)) != 0 {
		t.Errorf("Holds: %v", m.Holds(0))
	}
}

// K13, K14: a reeve whose disk is down answers questions, and a crash brings it back.
func TestCrash(t *testing.T) {
	m := newManor(t, 3)
	if _, e := m.Fee(1, 4, 12, 40); e != api.OK {
		t.Errorf("Fee: %d", e)
	}
	before := m.Roll(1)
	mustOK(t, "Stop", m.Stop(1, 1))
	if _, e := m.Fee(1, 7, 12, 40); e != api.ErrDown {
		t.Errorf("Fee where the power fails: %d", e)
	}
	for name, c := range map[string]command{"want": {n: [4]int{1, 9}, text: "ewe"}, "pay": {n: [4]int{1, 1, 1, 5}}, "waive": {n: [4]int{1, 1, 1, 5}}, "fee": {n: [4]int{1, 1, 1, 1}}} {
		c.name = name
		if got := c.of(m); got != (outcome{e: api.ErrDown}) {
			t.Errorf("%s of a reeve that is down: %v", name, got)
		}
	}
	if !slices.Equal(m.Roll(1), before) {
		t.Errorf("Roll of a reeve that is down: %v", m.Roll(1))
	}
	mustOK(t, "Crash", m.Crash(1, []int{64}))
	if l := m.Roll(1); len(l) != 2 && !slices.Equal(l, before) {
		t.Errorf("Roll behind a crash: %v", l)
	}
	n, e := m.Fee(1, 10, 12, 40)
	if n != len(m.Roll(1)) || e != api.OK {
		t.Errorf("Fee behind a crash: %d, %d", n, e)
	}
}
