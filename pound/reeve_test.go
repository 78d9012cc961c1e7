package pound_test

import (
	"fmt"
	"slices"
	"strings"
	"testing"

	"couchant/api"
	"couchant/pound"
)

// The chapter's examples, in their order.
func TestExamples(t *testing.T) {
	l, _ := bench(t, 3, 4000)
	a, b, c := l[0], l[1], l[2]
	want := func(r *pound.Reeve, tag string, until, now, number int) {
		t.Helper()
		if got, e := r.Want(tag, until, now); got != number || e != api.OK {
			t.Errorf("Want: %d, error %d, want %d", got, e, number)
		}
	}
	holds := func(r *pound.Reeve, now int, want string) {
		t.Helper()
		if got := fmt.Sprint(r.Holds(now)); got != want {
			t.Errorf("Holds(%d): %s, want %s", now, got, want)
		}
	}
	letters := func(r *pound.Reeve, now int, want ...string) {
		t.Helper()
		if got := r.Letters(now); !slices.Equal(got, want) {
			t.Errorf("Letters(%d): %q, want %q", now, got, want)
		}
	}
	want(a, "ewe-7", 9, 2, 1)
	letters(a, 2, "have 0 0 0\n", "ask 0 1 ewe-7 9\n")
	hear(t, b, "ask 0 1 ewe-7 9\n", 2, "give 1 0 1\n")
	if got := fmt.Sprint(b.Promises(2)); got != "[{ewe-7 0 1 9}]" {
		t.Errorf("Promises: %s", got)
	}
	want(c, "ewe-7", 5, 3, 1)
	hear(t, b, "ask 2 1 ewe-7 5\n", 3, "")
	hear(t, a, "give 1 0 1\n", 4, "")
	holds(a, 4, "[{ewe-7 4 9 1}]")
	holds(a, 10, "[]")
	hear(t, c, "ask 0 1 ewe-7 9\n", 4, "")
	hear(t, c, "ask 0 1 ewe-7 9\n", 6, "give 2 0 1\n")
	mustOK(t, "Free", a.Free("ewe-7", 7))
	holds(a, 7, "[]")
	letters(a, 7, "have 0 0 0\n", "free 0 1 ewe-7\n")
	hear(t, b, "free 0 1 ewe-7\n", 7, "")
	if got := b.Promises(7); len(got) != 0 {
		t.Errorf("Promises: %v", got)
	}
	for _, x := range []struct {
		number, owner, amount, result int
		e                             api.Errno
	}{{3, 12, 40, 1, api.OK}, {4, 12, 40, 0, api.ErrHome}, {3, 12, 50, 0, api.ErrTwice}} {
		if got, e := a.Charge(api.PostFine, x.number, x.owner, x.amount, 8); got != x.result || e != x.e {
			t.Errorf("Charge of %+v: %d, error %d", x, got, e)
		}
	}
	if got, e := b.Pay(ref(0, 1), 30, 8); got != 0 || e != api.ErrNone {
		t.Errorf("Pay: %d, error %d", got, e)
	}
	hear(t, b, "have 1 0 0\n", 8, "have 0 0 0\n")
	hear(t, a, "have 0 0 0\n", 8, "post 1\n0 1 8 fine 3 12 40\n")
	hear(t, b, "post 1\n0 1 8 fine 3 12 40\n", 8, "have 1 0 0\n")
	if got, e := b.Pay(ref(0, 1), 30, 9); got != 1 || e != api.OK {
		t.Errorf("Pay: %d, error %d", got, e)
	}
	if got, e := b.Pay(ref(0, 1), 20, 9); got != 0 || e != api.ErrState {
		t.Errorf("Pay: %d, error %d", got, e)
	}
	hear(t, b, "have 1 0 0\n", 9, "post 1\n1 1 9 take 0 1 12 30\n")
	hear(t, a, "post 1\n1 1 9 take 0 1 12 30\n", 9, "have 1 1 0\n")
	for _, e := range []api.Errno{api.OK, api.ErrNone} {
		if got, err := a.Settle(10); got != 0 || err != e {
			t.Errorf("Settle: %d, error %d, want error %d", got, err, e)
		}
	}
	roll := a.Roll()
	if got := lineOf(t, 3, roll[1]); got != "0 2 10 pay 1 12 30 by 1 1" {
		t.Errorf("Write: %q", got)
	}
	if got, e := pound.Owed(3, roll, ref(0, 1)); got != 10 || e != api.OK {
		t.Errorf("Owed: %d, error %d", got, e)
	}
	for account, want := range map[int]int{12: 10, 101: 30, 200: 0} {
		if got, e := pound.Balance(3, roll, account); got != want || e != api.OK {
			t.Errorf("Balance of %d: %d, error %d", account, got, e)
		}
	}
	if got := a.Have(); got != (api.Stock{Have: [5]int{2, 1}}) {
		t.Errorf("Have: %v", got)
	}
}

// alone returns the reeve 0 of three.
func alone(t testing.TB) *pound.Reeve {
	t.Helper()
	return opened(t, disk(t, 4000), 0, 3)
}

// promises returns the own promises in force as a text.
func promises(r *pound.Reeve, now int) string { return fmt.Sprint(r.Promises(now)) }

// wants makes a request that has to succeed.
func wants(t testing.TB, r *pound.Reeve, tag string, until, now int) int {
	t.Helper()
	number, e := r.Want(tag, until, now)
	mustOK(t, fmt.Sprintf("Want(%q, %d, %d)", tag, until, now), e)
	return number
}

// J9: what a request does to the own promise, and what is wrong with one.
func TestWant(t *testing.T) {
	r := alone(t)
	for _, x := range []struct {
		tag        string
		until, now int
	}{{"", 5, 2}, {"Ewe", 5, 2}, {"7ewe", 5, 2}, {"-e", 5, 2}, {"ewe 7", 5, 2}, {"ewe_7", 5, 2}, {"ewe\n", 5, 2}, {"eweé", 5, 2}, {"abcdefghijklmnopqrstuvwxy", 5, 2}, {"ewe", 1, 2}, {"ewe", 100001, 2}, {"ewe", 5, -1}, {"ewe", 100001, 100001}, {"ewe", -1, -1}} {
		if number, e := r.Want(x.tag, x.until, x.now); number != 0 || e != api.ErrArg {
			t.Errorf("Want of %+v: %d, error %d", x, number, e)
		}
	}
	for i, tag := range []string{"a", "abcdefghijklmnopqrstuvwx", "z--", "a0123456789"} {
		if number := wants(t, r, tag, 2, 2); number != i+1 {
			t.Errorf("Want(%q): %d, want %d", tag, number, i+1)
		}
	}
	if got := fmt.Sprint(r.Asks()); got != "[{1 a 2} {2 abcdefghijklmnopqrstuvwx 2} {3 z-- 2} {4 a0123456789 2}]" {
		t.Errorf("Asks: %s", got)
	}
	// A further request for the same beast takes the place of the one before, and is the last one.
	wants(t, r, "a", 9, 3)
	if got := fmt.Sprint(r.Asks()); got != "[{2 abcdefghijklmnopqrstuvwx 2} {3 z-- 2} {4 a0123456789 2} {5 a 9}]" {
		t.Errorf("Asks: %s", got)
	}
}

// J9: the Until of the own promise behind further requests.
func TestOwnPromise(t *testing.T) {
	r := alone(t)
	for _, x := range []struct {
		until, now int
		want       string
	}{{9, 2, "[{ewe 0 1 9}]"}, {7, 3, "[{ewe 0 2 9}]"}, {12, 9, "[{ewe 0 3 12}]"}, {13, 13, "[{ewe 0 4 13}]"}, {20, 14, "[{ewe 0 5 20}]"}, {21, 21, "[{ewe 0 6 21}]"}} {
		wants(t, r, "ewe", x.until, x.now)
		if got := promises(r, x.now); got != x.want {
			t.Errorf("promises behind Want(%d, %d): %s, want %s", x.until, x.now, got, x.want)
		}
		if got := fmt.Sprint(r.Asks()); strings.Count(got, "ewe") != 1 {
			t.Errorf("Asks: %s", got)
		}
	}
	if got := promises(r, 21) + promises(r, 22); got != "[{ewe 0 6 21}][]" {
		t.Errorf("promises at their ends: %s", got)
	}
	// Another one's promise is in the way until its end, and no longer.
	hear(t, r, "ask 1 1 cow 30\n", 25, "give 0 1 1\n")
	if number, e := r.Want("cow", 31, 30); number != 0 || e != api.ErrHeld {
		t.Errorf("Want: %d, error %d", number, e)
	}
	wants(t, r, "cow", 31, 31)
	if got := promises(r, 31); got != "[{cow 0 7 31}]" {
		t.Errorf("promises: %s", got)
	}
	// An until of a promise to another one that is over does not count.
	hear(t, r, "ask 1 1 ram 40\n", 25, "give 0 1 1\n")
	wants(t, r, "ram", 45, 41)
	if got := promises(r, 41); got != "[{ram 0 8 45}]" {
		t.Errorf("promises: %s", got)
	}
}

// J9: 300 requests, and no more; ErrHeld comes before that.
func TestRequestLimit(t *testing.T) {
	r := alone(t)
	for i := range 300 {
		if number := wants(t, r, pick(random(uint64(i)), tags()...), 5, 2); number != i+1 {
			t.Fatalf("Want: %d, want %d", number, i+1)
		}
	}
	if number, e := r.Want("ewe-7", 5, 2); number != 0 || e != api.ErrLimit {
		t.Errorf("Want: %d, error %d", number, e)
	}
	hear(t, r, "ask 1 1 ram 9\n", 2, "give 0 1 1\n")
	if number, e := r.Want("ram", 5, 2); number != 0 || e != api.ErrHeld {
		t.Errorf("Want: %d, error %d", number, e)
	}
	if number, e := r.Want("ram", 1, 2); number != 0 || e != api.ErrArg {
		t.Errorf("Want: %d, error %d", number, e)
	}
	hear(t, r, fmt.Sprintf("give 1 0 %d\n", r.Asks()[0].Number), 5, "")
	if len(r.Holds(5)) != 1 {
		t.Errorf("Holds: %v", r.Holds(5))
	}
}

// J17: how many promises a request needs, and from whom.
func TestMajority(t *testing.T) {
	for n, others := range map[int]int{3: 1, 5: 2} {
		r := opened(t, disk(t, 4000), 1, n)
		wants(t, r, "ewe", 9, 2)
		refuses(t, r, "give 1 1 1\n", 3, api.ErrState)
		refuses(t, r, "give 0 2 1\n", 3, api.ErrState)
		refuses(t, r, "give 1 2 1\n", 3, api.ErrState)
		hear(t, r, "give 0 1 2\n", 3, "") // there is no such request
		for range others - 1 {
			// The same one may give it as often as it likes.
			for range 3 {
				hear(t, r, fmt.Sprintf("give %d 1 1\n", n-1), 3, "")
			}
			if l := r.Holds(3); len(l) != 0 || len(r.Asks()) != 1 {
				t.Errorf("%d reeves: held too early: %v, %v", n, l, r.Asks())
			}
		}
		hear(t, r, "give 2 1 1\n", 4, "")
		if got := fmt.Sprint(r.Holds(3), r.Holds(4), r.Holds(9), r.Holds(10), r.Asks()); got != "[] [{ewe 4 9 1}] [{ewe 4 9 1}] [] []" {
			t.Errorf("%d reeves: %s", n, got)
		}
		hear(t, r, "give 0 1 1\n", 5, "") // granted already
		if got := fmt.Sprint(r.Holds(5)); got != "[{ewe 4 9 1}]" {
			t.Errorf("%d reeves: %s", n, got)
		}
	}
}

// J17: promises that come at the last tick, or too late, or for a request that is not open any more.
func TestGiveInTime(t *testing.T) {
	r := alone(t)
	wants(t, r, "ewe", 9, 2)
	hear(t, r, "give 1 0 1\n", 10, "")
	if got := fmt.Sprint(r.Holds(9), r.Holds(10), r.Asks()); got != "[] [] [{1 ewe 9}]" {
		t.Errorf("too late: %s", got)
	}
	hear(t, r, "give 1 0 1\n", 9, "")
	if got := fmt.Sprint(r.Holds(9)); got != "[{ewe 9 9 1}]" {
		t.Errorf("in time: %s", got)
	}
	wants(t, r, "cow", 9, 2)
	wants(t, r, "cow", 12, 2)
	hear(t, r, "give 1 0 2\n", 3, "")
	if got := fmt.Sprint(r.Holds(3), r.Asks()); got != "[] [{3 cow 12}]" {
		t.Errorf("of an earlier request: %s", got)
	}
	mustOK(t, "Free", r.Free("cow", 4))
	hear(t, r, "give 1 0 3\n", 4, "")
	if got := fmt.Sprint(r.Holds(4), r.Asks()); got != "[] []" {
		t.Errorf("behind Free: %s", got)
	}
	// Promises of one request do not count for the next one, nor behind an opening.
	d := disk(t, 4000)
	r = opened(t, d, 0, 5)
	wants(t, r, "ewe", 9, 2)
	hear(t, r, "give 1 0 1\n", 3, "")
	wants(t, r, "ewe", 9, 3)
	hear(t, r, "give 2 0 2\n", 3, "")
	if got := r.Holds(3); len(got) != 0 {
		t.Errorf("with promises for two requests: %v", got)
	}
	d.Crash(nil)
	r = opened(t, d, 0, 5)
	hear(t, r, "give 3 0 2\n", 3, "")
	if got := r.Holds(3); len(got) != 0 {
		t.Errorf("with a promise before a crash: %v", got)
	}
	hear(t, r, "give 1 0 2\n", 3, "")
	if got := fmt.Sprint(r.Holds(3)); got != "[{ewe 3 9 2}]" {
		t.Errorf("asked again: %s", got)
	}
}

// J11: what is let go, and what is not there to be.
func TestFree(t *testing.T) {
	r := alone(t)
	for _, tag := range []string{"ewe", "", "EWE", "ewe\n"} {
		if e := r.Free(tag, 2); e != api.ErrNone {
			t.Errorf("Free(%q): error %d", tag, e)
		}
	}
	for _, now := range []int{-1, 100001} {
		if e := r.Free("ewe", now); e != api.ErrArg {
			t.Errorf("Free at %d: error %d", now, e)
		}
	}
	// An open request is enough, even if its Until is over.
	wants(t, r, "ewe", 9, 2)
	mustOK(t, "Free", r.Free("ewe", 30))
	if got := fmt.Sprint(r.Asks(), r.Promises(2), r.Letters(9), r.Letters(10)); got != "[] [] [have 0 0 0\n free 0 1 ewe\n] [have 0 0 0\n]" {
		t.Errorf("freed: %q", got)
	}
	if e := r.Free("ewe", 3); e != api.ErrNone {
		t.Errorf("Free once more: error %d", e)
	}
	// Holds of several requests end all, others stay.
	for k, until := range []int{9, 12, 15} {
		number := wants(t, r, "cow", until, 2)
		hear(t, r, fmt.Sprintf("give 1 0 %d\n", number), 3+k, "")
	}
	wants(t, r, "ram", 9, 2)
	hear(t, r, "give 2 0 5\n", 3, "")
	if got := fmt.Sprint(r.Holds(5)); got != "[{cow 3 9 2} {cow 4 12 3} {cow 5 15 4} {ram 3 9 5}]" {
		t.Errorf("Holds: %s", got)
	}
	mustOK(t, "Free", r.Free("cow", 10)) // the first one is over
	if got := fmt.Sprint(r.Holds(9), r.Holds(10), r.Promises(9)); got != "[{cow 3 9 2} {cow 4 9 3} {cow 5 9 4} {ram 3 9 5}] [] [{ram 0 5 9}]" {
		t.Errorf("Holds: %s", got)
	}
	if e := r.Free("ram", 2); e != api.ErrNone { // the hold is not in force yet
		t.Errorf("Free before a hold: error %d", e)
	}
	mustOK(t, "Free", r.Free("ram", 3)) // a hold that was never
	if got := r.Holds(3); fmt.Sprint(got) != "[{cow 3 9 2}]" {
		t.Errorf("Holds: %v", got)
	}
	// A hold that is over cannot be freed.
	wants(t, r, "hog", 9, 2)
	hear(t, r, "give 2 0 6\n", 3, "")
	if e := r.Free("hog", 10); e != api.ErrNone {
		t.Errorf("Free behind a hold: error %d", e)
	}
	// A promise to another one stays.
	hear(t, r, "ask 1 7 hog 30\n", 10, "give 0 1 7\n")
	mustOK(t, "Free", r.Free("hog", 9))
	if got := promises(r, 10); got != "[{hog 1 7 30}]" {
		t.Errorf("promises: %s", got)
	}
	// Free at the tick 0.
	wants(t, r, "zero", 9, 0)
	hear(t, r, "give 2 0 7\n", 0, "")
	mustOK(t, "Free", r.Free("zero", 0))
	if got := r.Holds(0); len(got) != 0 {
		t.Errorf("Holds: %v", got)
	}
}

// J16: what letters there are, and their order.
func TestLetters(t *testing.T) {
	r := opened(t, disk(t, 4000), 2, 5)
	for k, tag := range []string{"b", "c", "a", "e", "d", "f", "g"} {
		wants(t, r, tag, 10+k, 2)
	}
	mustOK(t, "Free", r.Free("e", 3))
	mustOK(t, "Free", r.Free("d", 3))
	mustOK(t, "Free", r.Free("f", 3))
	wants(t, r, "b", 9, 3)
	wants(t, r, "f", 20, 3) // asked for again
	wants(t, r, "e", 9, 4)
	mustOK(t, "Free", r.Free("e", 5)) // the last request is another one
	_, e := r.Charge(api.PostFee, 7, 1, 1, 3)
	mustOK(t, "Charge", e)
	want := map[int][]string{
		3:  {"have 0 0 1 0 0\n", "ask 2 2 c 11\n", "ask 2 3 a 12\n", "ask 2 7 g 16\n", "ask 2 8 b 9\n", "ask 2 9 f 20\n", "free 2 5 d\n", "free 2 10 e\n"},
		9:  {"have 0 0 1 0 0\n", "ask 2 2 c 11\n", "ask 2 3 a 12\n", "ask 2 7 g 16\n", "ask 2 8 b 9\n", "ask 2 9 f 20\n", "free 2 5 d\n", "free 2 10 e\n"},
		10: {"have 0 0 1 0 0\n", "ask 2 2 c 11\n", "ask 2 3 a 12\n", "ask 2 7 g 16\n", "ask 2 9 f 20\n", "free 2 5 d\n"},
		14: {"have 0 0 1 0 0\n", "ask 2 7 g 16\n", "ask 2 9 f 20\n", "free 2 5 d\n"},
		15: {"have 0 0 1 0 0\n", "ask 2 7 g 16\n", "ask 2 9 f 20\n"},
		21: {"have 0 0 1 0 0\n"},
		-1: nil, 100001: nil, 100000: {"have 0 0 1 0 0\n"},
	}
	for now, l := range want {
		if got := r.Letters(now); !slices.Equal(got, l) {
			t.Errorf("Letters(%d): %q, want %q", now, got, l)
		}
	}
	if got := fmt.Sprint(r.Promises(-1), r.Promises(100001), r.Holds(-1), r.Holds(100001)); got != "[] [] [] []" {
		t.Errorf("at ticks that there are not: %s", got)
	}
}

// J17: when a promise is given, and what it becomes.
func TestAsk(t *testing.T) {
	r := alone(t)
	for _, x := range []struct {
		text   string
		now    int
		answer string
		want   string // the promise, in force or not
	}{
		{"ask 1 2 ewe 9\n", 10, "", "[]"}, // too late
		{"ask 1 2 ewe 9\n", 9, "give 0 1 2\n", "[{ewe 1 2 9}]"},
		{"ask 1 2 ewe 9\n", 3, "give 0 1 2\n", "[{ewe 1 2 9}]"},
		{"ask 1 1 ewe 12\n", 3, "", "[{ewe 1 2 9}]"}, // an earlier request
		{"ask 1 1 ewe 12\n", 11, "", "[{ewe 1 2 9}]"},
		{"ask 2 5 ewe 12\n", 9, "", "[{ewe 1 2 9}]"},
		{"ask 1 3 ewe 7\n", 5, "give 0 1 3\n", "[{ewe 1 3 9}]"},    // no shorter
		{"ask 1 3 ewe 12\n", 5, "give 0 1 3\n", "[{ewe 1 3 12}]"},  // longer
		{"ask 1 3 ewe 20\n", 15, "give 0 1 3\n", "[{ewe 1 3 20}]"}, // it was over
		{"ask 1 4 ewe 24\n", 24, "give 0 1 4\n", "[{ewe 1 4 24}]"}, // it was over
		{"ask 2 1 ewe 30\n", 25, "give 0 2 1\n", "[{ewe 2 1 30}]"}, // another one's is over
		{"ask 1 4 ewe 40\n", 31, "give 0 1 4\n", "[{ewe 1 4 40}]"}, // back again
		{"free 1 3 ewe\n", 32, "", "[{ewe 1 4 40}]"},               // of an earlier request
		{"free 2 9 ewe\n", 32, "", "[{ewe 1 4 40}]"},               // not its own
		{"free 1 9 cow\n", 32, "", "[{ewe 1 4 40}]"},               // another beast
		{"free 1 5 ewe\n", 32, "", "[]"},                           // up to a later one
		{"free 1 5 ewe\n", 32, "", "[]"},                           // again
		{"ask 1 4 ewe 40\n", 33, "give 0 1 4\n", "[{ewe 1 4 40}]"}, // a delayed one
		{"free 1 4 ewe\n", 100, "", "[]"},                          // that is over
		{"ask 1 4 ewe 100000\n", 100000, "give 0 1 4\n", "[{ewe 1 4 100000}]"},
	} {
		hear(t, r, x.text, x.now, x.answer)
		if got := promises(r, 0); got != x.want {
			t.Fatalf("promises behind %q at %d: %s, want %s", x.text, x.now, got, x.want)
		}
	}
	// The own promise is one as all others.
	wants(t, r, "cow", 9, 2)
	hear(t, r, "ask 1 1 cow 20\n", 9, "")
	hear(t, r, "ask 1 1 cow 20\n", 10, "give 0 1 1\n")
	refuses(t, r, "ask 0 1 cow 20\n", 30, api.ErrState)
	refuses(t, r, "free 0 1 cow\n", 30, api.ErrState)
	if got := promises(r, 20); got != "[{cow 1 1 20} {ewe 1 4 100000}]" {
		t.Errorf("promises: %s", got)
	}
}

// J12 to J14: the errors, each before those behind it.
func TestMoneyErrors(t *testing.T) {
	l, _ := bench(t, 3, 4000)
	a, b := l[0], l[1]
	for _, x := range []struct {
		kind                       uint8
		number, owner, amount, now int
	}{{0, 3, 12, 40, 2}, {3, 3, 12, 40, 2}, {4, 3, 12, 40, 2}, {5, 3, 12, 40, 2}, {255, 3, 12, 40, 2}, {1, 0, 12, 40, 2}, {1, -3, 12, 40, 2}, {1, 1000001, 12, 40, 2}, {1, 3, 0, 40, 2}, {1, 3, 41, 40, 2}, {1, 3, 12, 0, 2}, {1, 3, 12, 1000001, 2}, {1, 3, 12, 40, -1}, {1, 3, 12, 40, 100001}, {1, 4, 0, 40, 2}} {
		if number, e := a.Charge(x.kind, x.number, x.owner, x.amount, x.now); number != 0 || e != api.ErrArg {
			t.Errorf("Charge of %+v: %d, error %d", x, number, e)
		}
	}
	if number, e := a.Charge(api.PostFine, 1000000, 40, 1000000, 100000); number != 0 || e != api.ErrHome {
		t.Errorf("Charge: %d, error %d", number, e)
	}
	if number, e := b.Charge(api.PostFine, 1000000, 40, 1000000, 100000); number != 1 || e != api.OK {
		t.Errorf("Charge: %d, error %d", number, e)
	}
	for k, kind := range []uint8{api.PostFine, api.PostFee} { // one of each kind
		if number, e := a.Charge(kind, 3, 12, 40, 8); number != k+1 || e != api.OK {
			t.Errorf("Charge: %d, error %d", number, e)
		}
		if number, e := a.Charge(kind, 3, 13, 50, 9); number != 0 || e != api.ErrTwice {
			t.Errorf("Charge: %d, error %d", number, e)
		}
	}
	hear(t, a, post(lineOf(t, 3, b.Roll()[0])), 9, "have 2 1 0\n")
	type order = func(of api.Ref, amount, now int) (int, api.Errno)
	for name, x := range map[string]struct {
		do  order
		own bool
	}{"Pay": {a.Pay, false}, "Waive": {a.Waive, true}} {
		for _, y := range []struct {
			of          api.Ref
			amount, now int
			e           api.Errno
		}{
			{ref(-1, 1), 1, 2, api.ErrArg}, {ref(3, 1), 1, 2, api.ErrArg}, {ref(0, 0), 1, 2, api.ErrArg}, {ref(0, 301), 1, 2, api.ErrArg}, {ref(0, 1), 0, 2, api.ErrArg}, {ref(0, 1), 1000001, 2, api.ErrArg}, {ref(0, 1), 1, -1, api.ErrArg}, {ref(0, 9), 1, 100001, api.ErrArg},
			{ref(0, 300), 1, 2, api.ErrNone}, {ref(2, 1), 1000000, 2, api.ErrNone}, {ref(1, 2), 1, 2, api.ErrNone},
			{ref(0, 1), 41, 2, api.ErrState}, {ref(0, 2), 1000000, 2, api.ErrState},
		} {
			if number, e := x.do(y.of, y.amount, y.now); number != 0 || e != y.e {
				t.Errorf("%s of %+v: %d, error %d", name, y, number, e)
			}
		}
	}
	if number, e := a.Waive(ref(1, 1), 1000000, 2); number != 0 || e != api.ErrHome {
		t.Errorf("Waive: %d, error %d", number, e)
	}
	for _, now := range []int{-1, 100001} {
		if left, e := a.Settle(now); left != 0 || e != api.ErrArg {
			t.Errorf("Settle: %d, error %d", left, e)
		}
	}
	if left, e := a.Settle(5); left != 0 || e != api.ErrNone {
		t.Errorf("Settle: %d, error %d", left, e)
	}
	// A posting that is no charge cannot be paid.
	if number, e := a.Pay(ref(0, 1), 10, 9); number != 3 || e != api.OK {
		t.Errorf("Pay: %d, error %d", number, e)
	}
	if number, e := a.Pay(ref(0, 3), 10, 9); number != 0 || e != api.ErrNone {
		t.Errorf("Pay: %d, error %d", number, e)
	}
}

// J13, J14: what is taken by others lessens what they can take, but not what the home can.
func TestMoney(t *testing.T) {
	l, _ := bench(t, 3, 4000)
	a, b, c := l[0], l[1], l[2]
	_, e := a.Charge(api.PostFine, 3, 12, 40, 1)
	mustOK(t, "Charge", e)
	_, e = a.Charge(api.PostFee, 3, 12, 10, 1)
	mustOK(t, "Charge", e)
	letter := post("0 1 1 fine 3 12 40", "0 2 1 fee 3 12 10")
	hear(t, b, letter, 2, "have 2 0 0\n")
	hear(t, c, letter, 2, "have 2 0 0\n")
	try := func(who string, number int, e api.Errno, want int, err api.Errno) {
		t.Helper()
		if number != want || e != err {
			t.Errorf("%s: %d, error %d, want %d, error %d", who, number, e, want, err)
		}
	}
	number, e := b.Pay(ref(0, 1), 25, 3)
	try("b.Pay", number, e, 1, api.OK)
	number, e = b.Pay(ref(0, 1), 16, 3)
	try("b.Pay", number, e, 0, api.ErrState)
	number, e = b.Pay(ref(0, 2), 10, 3) // that is another charge
	try("b.Pay", number, e, 2, api.OK)
	number, e = b.Pay(ref(0, 1), 15, 3)
	try("b.Pay", number, e, 3, api.OK)
	number, e = c.Pay(ref(0, 1), 40, 3) // it has not heard of them
	try("c.Pay", number, e, 1, api.OK)
	hear(t, a, post("1 1 3 take 0 1 12 25", "1 2 3 take 0 2 12 10", "1 3 3 take 0 1 12 15"), 4, "have 2 3 0\n")
	hear(t, a, post("2 1 3 take 0 1 12 40"), 4, "have 2 3 1\n")
	number, e = a.Pay(ref(0, 1), 30, 4) // the home itself has not paid them in
	try("a.Pay", number, e, 3, api.OK)
	number, e = a.Waive(ref(0, 1), 11, 4)
	try("a.Waive", number, e, 0, api.ErrState)
	number, e = a.Waive(ref(0, 1), 10, 4)
	try("a.Waive", number, e, 4, api.OK)
	for _, left := range []int{3, 2, 1, 0} {
		number, e = a.Settle(5)
		try("a.Settle", number, e, left, api.OK)
	}
	number, e = a.Settle(5)
	try("a.Settle", number, e, 0, api.ErrNone)
	var lines []string
	for _, p := range a.Roll()[:8] {
		lines = append(lines, lineOf(t, 3, p))
	}
	if got, want := strings.Join(lines[2:], ", "), "0 3 4 pay 1 12 30, 0 4 4 waive 1 12 10, 0 5 5 pay 1 12 25 by 1 1, 0 6 5 pay 2 12 10 by 1 2, 0 7 5 pay 1 12 15 by 1 3, 0 8 5 pay 1 12 40 by 2 1"; got != want {
		t.Errorf("postings: %s, want %s", got, want)
	}
	// The account of the owner is in credit.
	if balance, e := pound.Balance(3, a.Roll(), 12); balance != -80 || e != api.OK {
		t.Errorf("Balance: %d, error %d", balance, e)
	}
	number, e = a.Pay(ref(0, 1), 1, 6)
	try("a.Pay", number, e, 0, api.ErrState)
	// What is paid in is told to the others, in letters of at most ten.
	hear(t, a, "have 2 0 0\n", 6, post(append(slices.Clone(lines[2:]), "1 1 3 take 0 1 12 25", "1 2 3 take 0 2 12 10", "1 3 3 take 0 1 12 15", "2 1 3 take 0 1 12 40")...))
	hear(t, a, "have 1 0 0\n", 6, post(append(slices.Clone(lines[1:]), "1 1 3 take 0 1 12 25", "1 2 3 take 0 2 12 10", "1 3 3 take 0 1 12 15")...))
	hear(t, a, "have 8 1 300\n", 6, post("1 2 3 take 0 2 12 10", "1 3 3 take 0 1 12 15"))
	hear(t, a, "have 8 3 1\n", 6, "")
	hear(t, a, "have 8 3 2\n", 6, "have 8 3 1\n")
	hear(t, a, "have 300 300 300\n", 6, "have 8 3 1\n")
	// A payable amount that others have taken may be less than nothing.
	hear(t, b, post("2 1 3 take 0 1 12 40"), 7, "have 2 3 1\n")
	number, e = b.Pay(ref(0, 1), 1, 7)
	try("b.Pay", number, e, 0, api.ErrState)
}

// J12 to J14: 300 postings, and no more.
func TestPostingLimit(t *testing.T) {
	l, _ := bench(t, 3, 9000)
	a, b := l[0], l[1]
	_, e := b.Charge(api.PostFine, 1, 5, 1000, 1)
	mustOK(t, "Charge", e)
	hear(t, a, post("1 1 1 fine 1 5 1000"), 2, "have 0 1 0\n")
	for i := range 299 {
		number, e := a.Charge(api.PostFine, 3*(i+1), 5, 10, 1)
		mustOK(t, "Charge", e)
		if number != i+1 {
			t.Fatalf("Charge: %d", number)
		}
	}
	hear(t, a, post("1 2 1 take 0 1 5 10", "1 3 1 take 0 2 5 10"), 2, "have 299 3 0\n")
	if left, e := a.Settle(3); left != 1 || e != api.OK {
		t.Errorf("Settle: %d, error %d", left, e)
	}
	if left, e := a.Settle(3); left != 0 || e != api.ErrLimit {
		t.Errorf("Settle: %d, error %d", left, e)
	}
	for _, x := range []struct {
		what string
		do   func() (int, api.Errno)
		e    api.Errno
	}{
		{"Charge", func() (int, api.Errno) { return a.Charge(api.PostFine, 3000, 5, 10, 1) }, api.ErrLimit},
		{"Charge", func() (int, api.Errno) { return a.Charge(api.PostFine, 3, 5, 10, 1) }, api.ErrTwice},
		{"Pay", func() (int, api.Errno) { return a.Pay(ref(0, 2), 10, 1) }, api.ErrLimit},
		{"Pay", func() (int, api.Errno) { return a.Pay(ref(1, 1), 10, 1) }, api.ErrLimit},
		{"Pay", func() (int, api.Errno) { return a.Pay(ref(0, 2), 11, 1) }, api.ErrState},
		{"Waive", func() (int, api.Errno) { return a.Waive(ref(0, 2), 10, 1) }, api.ErrLimit},
		{"Waive", func() (int, api.Errno) { return a.Waive(ref(1, 1), 10, 1) }, api.ErrHome},
	} {
		if number, e := x.do(); number != 0 || e != x.e {
			t.Errorf("%s: %d, error %d, want error %d", x.what, number, e, x.e)
		}
	}
	if got := a.Have(); got != (api.Stock{Have: [5]int{300, 3}}) {
		t.Errorf("Have: %v", got)
	}
	// Thirty letters bring all of them to another one.
	for range 30 {
		text, e := a.Hear(fmt.Sprintf("have %d 3 0\n", l[2].Have().Have[0]), 5)
		mustOK(t, "Hear", e)
		_, e = l[2].Hear(text, 5)
		mustOK(t, "Hear", e)
	}
	if !slices.Equal(l[2].Roll()[:300], a.Roll()[:300]) {
		t.Error("the rolls differ")
	}
}

// J17: letters that say something wrong, or come in another order.
func TestHearLetter(t *testing.T) {
	a := alone(t)
	_, e := a.Charge(api.PostFine, 3, 12, 40, 8)
	mustOK(t, "Charge", e)
	hear(t, a, post("1 1 8 fine 1 12 40", "1 2 8 pay 1 12 10", "1 4 8 pay 1 12 10", "2 2 8 fine 2 12 40"), 8, "have 1 2 0\n")
	hear(t, a, post("1 1 8 fine 1 12 40", "1 2 8 pay 1 12 10"), 8, "")
	hear(t, a, post("0 1 8 fine 3 12 40", "1 4 8 pay 1 12 10"), 8, "")
	for _, lines := range [][]string{
		{"0 1 8 fine 3 12 41"}, // another one of its own
		{"0 2 8 fine 6 12 41"}, // one of its own that it has not made
		{"0 300 8 fine 6 12 41"},
		{"1 1 9 fine 1 12 40"}, // another one of another reeve
		{"1 1 8 fine 1 12 40", "1 2 8 pay 1 12 11"},
		{"1 3 8 fine 1 12 40"},                                            // twice
		{"1 3 8 pay 1 12 31"},                                             // too much
		{"1 3 8 pay 1 13 1"},                                              // of somebody else
		{"1 3 8 pay 2 12 1"},                                              // of no charge
		{"1 3 8 pay 1 12 30", "1 4 8 pay 1 12 1"},                         // too much together
		{"1 3 8 pay 1 12 5 by 0 1", "1 4 8 pay 1 12 1 by 0 1"},            // twice in one letter
		{"1 3 8 fine 4 12 40", "1 4 8 fine 4 12 40"},                      // twice in one letter
		{"1 3 8 pay 1 12 30", "2 1 8 fine 2 12 40", "2 2 8 pay 1 12 41"},  // the last one alone
		{"0 2 8 fine 6 12 41", "1 3 8 pay 1 12 30", "2 1 8 fee 2 12 999"}, // the first one alone
	} {
		refuses(t, a, post(lines...), 9, api.ErrState)
		if got := a.Have(); got != (api.Stock{Have: [5]int{1, 2}}) {
			t.Fatalf("%q added something: %v", lines, got)
		}
	}
	// One that is ignored is not looked at.
	hear(t, a, post("1 4 8 pay 1 13 99"), 9, "")
	hear(t, a, post("1 3 8 pay 1 12 30", "1 5 8 pay 1 13 99", "2 1 8 take 1 300 40 1", "2 2 8 take 1 300 40 1"), 9, "have 1 3 2\n")
	if got := len(a.Roll()); got != 6 {
		t.Errorf("%d postings", got)
	}
}

// J17: exactly the forms of messages are read.
func TestForms(t *testing.T) {
	long := make([]string, 11)
	for i := range long {
		long[i] = fmt.Sprintf("1 %d 8 fine %d 12 40", i+1, 3*i+1)
	}
	for _, m := range []string{"", "\n", "have", "have\n", "have 0 0 0", "have 0 0\n", "have 0 0 0 0\n", "have 0 0 301\n", "have 0 0 -1\n", "have 0 0 00\n", "have 0 0  0\n", "have 0 0 0 \n", " have 0 0 0\n", "Have 0 0 0\n", "have 0 0 0\n\n", "have 0 0 0\nhave 0 0 0\n", "have 0 0 0\r\n", "hav 0 0 0\n",
		"post 0\n", "post 1\n", "post 1\n\n", "post 2\n1 1 8 fine 1 12 40\n", "post 1\n1 1 8 fine 1 12 40", "post 1\n1 1 8 fine 1 12 40\n\n", "post 1\n1 1 8 fine 1 12 40\n1 2 8 fine 4 12 40\n", "post 1\n1 1 8 fine 2 12 40\n", "post 2\n1 1 8 fine 1 12 40\n1 1 8 fine 1 12 40\n", "post 2\n1 2 8 fine 4 12 40\n1 1 8 fine 1 12 40\n", "post 2\n2 1 8 fine 2 12 40\n1 1 8 fine 1 12 40\n", "post 1 \n1 1 8 fine 1 12 40\n", "post 01\n1 1 8 fine 1 12 40\n", "post 1 1\n1 1 8 fine 1 12 40\n", "post 1000000000000\n1 1 8 fine 1 12 40\n", post(long...),
		"ask 3 1 ewe 9\n", "ask -1 1 ewe 9\n", "ask 1 0 ewe 9\n", "ask 1 301 ewe 9\n", "ask 1 1 Ewe 9\n", "ask 1 1  9\n", "ask 1 1 9\n", "ask 1 1 ewe 100001\n", "ask 1 1 ewe -1\n", "ask 1 1 ewe\n", "ask 1 1 ewe 9 9\n", "ask 1 1 abcdefghijklmnopqrstuvwxy 9\n", "ask 1 1 ewe 9\nask 1 1 ewe 9\n",
		"give 1 0\n", "give 3 0 1\n", "give 1 3 1\n", "give 1 0 0\n", "give 1 0 301\n", "give 1 0 1 1\n", "give 1 0 1", "give 01 0 1\n", "give 1 0 +1\n",
		"free 1 1\n", "free 3 1 ewe\n", "free 1 0 ewe\n", "free 1 301 ewe\n", "free 1 1 ewe 9\n", "free 1 1 7\n", "let ewe 4\n", "want ewe 4 4\n", "1 1 8 fine 1 12 40\n",
	} {
		r := alone(t)
		before := stateOf(r, 2)
		refuses(t, r, m, 2, api.ErrForm)
		refuses(t, r, m, -1, api.ErrArg)
		refuses(t, r, m, 100001, api.ErrArg)
		if stateOf(r, 2) != before {
			t.Errorf("%q changed something", m)
		}
	}
	r := alone(t)
	for m, answer := range map[string]string{post(long[:10]...): "have 0 10 0\n", "have 300 300 300\n": "have 0 10 0\n", "ask 2 300 a 100000\n": "give 0 2 300\n"} {
		if got, e := r.Hear(m, 2); e != api.OK || got != answer && !strings.HasPrefix(m, "have") {
			t.Errorf("Hear(%q): %q, error %d", m, got, e)
		}
	}
}

// J17: all texts, changed at random, are heard as the model hears them.
func TestMessagesAtRandom(t *testing.T) {
	r := random(4)
	formed, not := 0, 0
	for range 60 {
		n := pick(r, 3, 5)
		w := newWorld(t, r, n, 4000)
		var texts []string
		for range 300 {
			w.step(false)
			for _, m := range w.mail {
				texts = append(texts, m.text)
			}
			if len(texts) == 0 {
				continue
			}
			text := pick(r, texts...)
			for range r.IntN(3) {
				text = changed(r, text, "have", "post", "ask", "give", "free", "ewe-7", "4", "fine")
			}
			got := w.do(r.IntN(n), action{name: "Hear", text: text, now: w.now})
			if got.e == api.ErrForm {
				not++
			} else {
				formed++
			}
			if len(texts) > 100 {
				texts = texts[60:]
			}
		}
	}
	if formed < 5000 || not < 1000 {
		t.Errorf("%d heard, %d not", formed, not)
	}
}

// J8: who can be opened.
func TestOpen(t *testing.T) {
	d := disk(t, 64)
	for _, x := range []struct{ reeve, n int }{{0, 0}, {0, 1}, {0, 2}, {0, 4}, {0, 6}, {0, -3}, {3, 3}, {5, 5}, {-1, 3}, {-1, 5}} {
		if r, e := pound.Open(d, x.reeve, x.n); r != nil || e != api.ErrArg {
			t.Errorf("Open of %+v: error %d", x, e)
		}
		if r, e := pound.Open(nil, x.reeve, x.n); r != nil || e != api.ErrArg {
			t.Errorf("Open of %+v from no disk: error %d", x, e)
		}
	}
	if r, e := pound.Open(nil, 0, 3); r != nil || e != api.ErrNil {
		t.Errorf("Open from no disk: error %d", e)
	}
	for n, others := range map[int]int{3: 5, 5: 3} {
		for reeve := range n {
			d := disk(t, 64)
			r := opened(t, d, reeve, n)
			if got, want := stateOf(r, 0, 5), newModel(reeve, n).state(0, 5); got != want {
				t.Errorf("a new reeve knows\n%s", got)
			}
			for other := range n {
				_, e := pound.Open(d, other, n)
				if (e == api.OK) != (other == reeve) || e != api.OK && e != api.ErrSpoilt {
					t.Errorf("Open of %d from the disk of %d: error %d", other, reeve, e)
				}
			}
			for other := range others {
				if r, e := pound.Open(d, other, others); r != nil || e != api.ErrSpoilt {
					t.Errorf("Open of %d of %d from the disk of %d of %d: error %d", other, others, reeve, n, e)
				}
			}
		}
	}
	mustOK(t, "Stop", d.Stop(0))
	if e := d.Flush(); e != api.ErrDown {
		t.Errorf("Flush: error %d", e)
	}
	if r, e := pound.Open(d, 0, 3); r != nil || e != api.ErrDown {
		t.Errorf("Open from a disk that is down: error %d", e)
	}
}
