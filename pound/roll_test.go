package pound_test

import (
	"fmt"
	"math"
	"math/rand/v2"
	"slices"
	"strings"
	"testing"

	"couchant/api"
	"couchant/pound"
)

// well returns a well-formed posting of each kind, and a PostPay by what another reeve took.
func well() []api.Posting {
	return []api.Posting{
		{Reeve: 1, Number: 9, Tick: 7, Kind: api.PostFine, Case: 16, Owner: 12, Amount: 40},
		{Reeve: 1, Number: 9, Tick: 7, Kind: api.PostFee, Case: 1, Owner: 12, Amount: 40},
		{Reeve: 1, Number: 9, Tick: 7, Kind: api.PostTake, Of: ref(2, 9), Owner: 12, Amount: 40},
		{Reeve: 1, Number: 9, Tick: 7, Kind: api.PostPay, Of: ref(1, 8), Owner: 12, Amount: 40},
		{Reeve: 1, Number: 9, Tick: 7, Kind: api.PostPay, Of: ref(1, 8), By: ref(0, 300), Owner: 12, Amount: 40},
		{Reeve: 1, Number: 9, Tick: 7, Kind: api.PostWaive, Of: ref(1, 1), Owner: 12, Amount: 40},
	}
}

// fields are the numbers of a posting.
func fields(p *api.Posting) []*int {
	return []*int{&p.Reeve, &p.Number, &p.Tick, &p.Case, &p.Owner, &p.Amount, &p.Of.Reeve, &p.Of.Number, &p.By.Reeve, &p.By.Number}
}

// edges are numbers at the ends of what fields can be.
func edges() []int {
	return []int{math.MinInt, -1, 0, 1, 2, 3, 4, 5, 7, 8, 9, 10, 15, 16, 17, 39, 40, 41, 299, 300, 301, 99999, 100000, 100001, 999999, 1000000, 1000001, math.MaxInt}
}

// P9.1, J4, J7: each field of each kind is looked at, and what is well-formed has a line.
func TestFields(t *testing.T) {
	good, bad := 0, 0
	check := func(n int, p api.Posting) {
		want := api.ErrArg
		if isWellFormed(n, p) {
			want = api.OK
			good++
		} else {
			bad++
		}
		if e := pound.CheckPosting(n, p); e != want {
			t.Errorf("CheckPosting(%d, %+v): error %d, want %d", n, p, e, want)
		}
		line, e := pound.Write(n, p)
		text := ""
		if want == api.OK {
			text, _ = writeLine(p)
		}
		if line != text || e != want {
			t.Errorf("Write(%d, %+v): %q, error %d, want %q, error %d", n, p, line, e, text, want)
		}
		if want == api.OK {
			if q, e := pound.Read(n, line); q != p || e != api.OK {
				t.Errorf("Read(%d, %q): %+v, error %d, want %+v", n, line, q, e, p)
			}
		}
	}
	for _, p := range well() {
		for _, n := range []int{3, 5, 0, 1, 2, 4, 6, 7, -3, math.MaxInt, math.MinInt} {
			check(n, p)
		}
		for kind := range 256 {
			q := p
			q.Kind = uint8(kind)
			check(3, q)
		}
		for i := range fields(&p) {
			for _, n := range []int{3, 5} {
				for _, x := range edges() {
					q := p
					*fields(&q)[i] = x
					check(n, q)
					for j := range fields(&p) {
						for _, y := range []int{0, 1, 2, 8, 9, 10} {
							z := q
							*fields(&z)[j] = y
							check(n, z)
						}
					}
				}
			}
		}
	}
	if good < 1000 || bad < 1000 {
		t.Errorf("%d well-formed, %d not", good, bad)
	}
}

// J7: the lines of the chapter and others.
func TestLines(t *testing.T) {
	want := map[string]api.Posting{
		"0 1 8 fine 3 12 40":        {Reeve: 0, Number: 1, Tick: 8, Kind: api.PostFine, Case: 3, Owner: 12, Amount: 40},
		"1 1 0 fee 4 12 40":         {Reeve: 1, Number: 1, Kind: api.PostFee, Case: 4, Owner: 12, Amount: 40},
		"1 1 9 take 0 1 12 30":      {Reeve: 1, Number: 1, Tick: 9, Kind: api.PostTake, Of: ref(0, 1), Owner: 12, Amount: 30},
		"0 2 10 pay 1 12 30 by 1 1": {Reeve: 0, Number: 2, Tick: 10, Kind: api.PostPay, Of: ref(0, 1), By: ref(1, 1), Owner: 12, Amount: 30},
		"0 2 10 pay 1 12 30":        {Reeve: 0, Number: 2, Tick: 10, Kind: api.PostPay, Of: ref(0, 1), Owner: 12, Amount: 30},
		"2 300 100000 waive 299 40 1000000": {Reeve: 2, Number: 300, Tick: 100000, Kind: api.PostWaive, Of: ref(2, 299),
			Owner: 40, Amount: 1000000},
	}
	for line, p := range want {
		if got, e := pound.Read(3, line); got != p || e != api.OK {
			t.Errorf("Read(%q): %+v, error %d", line, got, e)
		}
		if got, e := pound.Write(3, p); got != line || e != api.OK {
			t.Errorf("Write(%+v): %q, error %d", p, got, e)
		}
	}
	for _, line := range []string{"", " ", "\n", "0", "0 1 8", "0 1 8 fine", "0 1 8 fine 3 12", "0 1 8 fine 3 12 40 ", " 0 1 8 fine 3 12 40", "0  1 8 fine 3 12 40", "0 1 8 fine 3 12 40\n", "0 1 8 fine 3 12 40 by 1 1", "0 1 8 fine 3 12 040", "0 1 8 fine 3 12 +40", "-0 1 8 fine 3 12 40", "0 1 8 Fine 3 12 40", "0 1 8 fine 4 12 40", "0 1 8 fine 3 12 1000001", "0 1 8 fine 3 12 99999999999999999999", "0 2 10 pay 1 12 30 by", "0 2 10 pay 1 12 30 by 1", "0 2 10 pay 1 12 30 by 0 1", "0 2 10 pay 1 12 30 by 0 0", "0 2 10 pay 1 12 30 by 1 1 1", "0 2 10 pay 1 12 30 at 1 1", "0 2 10 waive 1 12 30 by 1 1", "0 2 10 pay 2 12 30", "0 2 10 take 0 1 12 30", "0 1 8  3 12 40", "3 1 8 fine 3 12 40", "0 1 8 1 3 12 40"} {
		if got, e := pound.Read(3, line); got != (api.Posting{}) || e != api.ErrForm {
			t.Errorf("Read(%q): %+v, error %d", line, got, e)
		}
	}
	for _, n := range []int{0, 2, 4, 6, -1} {
		if got, e := pound.Read(n, "0 1 8 fine 3"); got != (api.Posting{}) || e != api.ErrArg {
			t.Errorf("Read(%d): %+v, error %d", n, got, e)
		}
	}
}

// changed returns a text in which something is another.
func changed(r *rand.Rand, s string, words ...string) string {
	i := r.IntN(len(s) + 1)
	switch r.IntN(5) {
	case 0:
		return s[:i]
	case 1:
		return s[:i] + pick(r, "0", "1", "9", " ", "\n", "-", "a", "by 1 1", " 1", "\x00", "300") + s[i:]
	case 2:
		return s[:i] + s[min(i+1+r.IntN(3), len(s)):]
	}
	parts := strings.Split(s, " ")
	i = r.IntN(len(parts))
	parts[i] = pick(r, append(words, "", "0", "1", "2", "3", "5", "300", "301", "1000000", "01", "+1", "1000001", "-1", "40", "41")...)
	if r.IntN(4) == 0 {
		parts = slices.Delete(parts, i, i+1)
	}
	return strings.Join(parts, " ")
}

// J7: of all texts, exactly the lines of well-formed postings are read.
func TestReadAtRandom(t *testing.T) {
	r := random(2)
	read, refused := 0, 0
	for range 40000 {
		n := pick(r, 3, 5)
		line, _ := writeLine(pick(r, well()...))
		for range 1 + r.IntN(2) {
			line = changed(r, line, "fine", "fee", "take", "pay", "waive", "by", "100000", "100001")
		}
		want, is := readLine(n, line)
		e := api.ErrForm
		if is {
			e = api.OK
			read++
		} else {
			want = api.Posting{}
			refused++
		}
		if got, err := pound.Read(n, line); got != want || err != e {
			t.Errorf("Read(%d, %q): %+v, error %d, want %+v, error %d", n, line, got, err, want, e)
		}
	}
	if read < 3000 || refused < 5000 {
		t.Errorf("%d read, %d refused", read, refused)
	}
}

// J6: the table of accounts, for postings that are not well-formed also.
func TestTransferOf(t *testing.T) {
	for _, p := range well() {
		if got, want := pound.TransferOf(p), transfer(p); got != want {
			t.Errorf("TransferOf(%+v): %v, want %v", p, got, want)
		}
	}
	want := map[api.Posting]api.Transfer{
		{Kind: api.PostFine, Owner: -5, Amount: -7, By: ref(1, 1)}:              {Debit: -5, Credit: 0, Amount: -7},
		{Kind: api.PostTake, Reeve: 77, Owner: 3, Amount: 0}:                    {Debit: 177, Credit: 200},
		{Kind: api.PostPay, Reeve: 4, Owner: 3, Amount: 2, By: ref(0, 5)}:       {Debit: 200, Credit: 3, Amount: 2},
		{Kind: api.PostPay, Reeve: 4, Owner: 3, Amount: 2, By: ref(-1, 0)}:      {Debit: 200, Credit: 3, Amount: 2},
		{Kind: api.PostPay, Reeve: 4, Owner: 3, Amount: 2}:                      {Debit: 104, Credit: 3, Amount: 2},
		{Kind: api.PostWaive, Owner: math.MaxInt, Amount: math.MinInt}:          {Debit: 0, Credit: math.MaxInt, Amount: math.MinInt},
		{Kind: 0, Reeve: 1, Owner: 3, Amount: 2}:                                {},
		{Kind: 6, Reeve: 1, Owner: 3, Amount: 2}:                                {},
		{Kind: 255, Reeve: 1, Number: 4, Case: 1, Owner: 3, Tick: 1, Amount: 2}: {},
	}
	for p, x := range want {
		if got := pound.TransferOf(p); got != x {
			t.Errorf("TransferOf(%+v): %v, want %v", p, got, x)
		}
	}
}

// J4: each way in which a posting can be refused, at its place.
func TestCheckRoll(t *testing.T) {
	for _, c := range []struct {
		e     api.Errno
		lines []string // the last one is refused, with an error
	}{
		{api.OK, nil},
		{api.OK, []string{"0 1 8 fine 3 12 40"}},
		{api.OK, []string{"2 1 8 fine 2 12 40"}},
		{api.OK, []string{"0 1 8 fine 3 12 40", "0 2 8 fee 3 12 40", "0 3 8 fine 6 12 40", "1 1 0 fine 1 1 1", "2 1 0 fine 2 1 1"}},
		{api.ErrState, []string{"0 2 8 fine 3 12 40"}},
		{api.ErrState, []string{"0 1 8 fine 3 12 40", "0 1 8 fine 3 12 40"}},
		{api.ErrState, []string{"0 1 8 fine 3 12 40", "0 3 8 fine 6 12 40"}},
		{api.ErrState, []string{"1 1 8 fine 1 12 40", "0 1 8 fine 3 12 40"}},
		{api.ErrState, []string{"1 1 8 fine 1 12 40", "0 2 8 fine 3 12 40"}},
		{api.ErrState, []string{"0 1 8 fine 3 12 40", "1 2 8 fine 1 12 40"}},
		{api.ErrTwice, []string{"0 1 8 fine 3 12 40", "0 2 8 fine 3 13 50"}},
		{api.ErrTwice, []string{"0 1 8 fee 3 12 40", "0 2 8 fine 3 12 40", "0 3 8 fee 3 12 40"}},
		{api.OK, []string{"0 1 8 fine 3 12 40", "0 2 8 pay 1 12 30 by 1 1", "0 3 8 pay 1 12 30 by 1 2", "0 4 8 pay 1 12 30 by 2 1"}},
		{api.ErrTwice, []string{"0 1 8 fine 3 12 40", "0 2 8 pay 1 12 30 by 1 1", "0 3 8 pay 1 12 30 by 1 1"}},
		{api.ErrTwice, []string{"0 1 8 fine 3 12 40", "0 2 8 fine 6 12 40", "0 3 8 pay 1 12 30 by 1 1", "0 4 8 pay 2 12 1 by 1 1"}},
		{api.ErrTwice, []string{"0 1 8 fine 3 12 40", "0 2 8 pay 1 12 30 by 1 1", "0 3 8 pay 2 13 30 by 1 1"}},
		{api.OK, []string{"0 1 8 fine 3 12 40", "0 2 8 pay 1 12 30", "0 3 8 pay 1 12 10"}},
		{api.OK, []string{"0 1 8 fine 3 12 40", "0 2 8 pay 1 12 30 by 2 1", "2 1 8 fine 2 12 40", "2 2 8 pay 1 12 30 by 0 1"}},
		{api.ErrNone, []string{"0 1 8 fine 3 12 40", "0 2 8 pay 1 13 30"}},
		{api.ErrNone, []string{"0 1 8 fine 3 12 40", "0 2 8 pay 1 12 30", "0 3 8 pay 2 12 10"}},
		{api.ErrNone, []string{"0 1 8 fine 3 12 40", "0 2 8 pay 1 12 30", "0 3 8 waive 2 12 10"}},
		{api.ErrNone, []string{"0 1 8 fine 3 12 40", "0 2 8 waive 1 11 1000000"}},
		{api.ErrNone, []string{"0 1 8 fine 3 12 40", "0 2 8 pay 1 11 1000000 by 1 1"}},
		{api.ErrState, []string{"0 1 8 fine 3 12 40", "0 2 8 pay 1 12 41"}},
		{api.ErrState, []string{"0 1 8 fine 3 12 40", "0 2 8 pay 1 12 30", "0 3 8 waive 1 12 11"}},
		{api.OK, []string{"0 1 8 fine 3 12 40", "0 2 8 pay 1 12 30", "0 3 8 waive 1 12 10"}},
		{api.OK, []string{"0 1 8 fine 3 12 40", "0 2 8 pay 1 12 1000000 by 1 1"}},
		{api.ErrState, []string{"0 1 8 fine 3 12 40", "0 2 8 pay 1 12 1000000 by 1 1", "0 3 8 pay 1 12 1"}},
		{api.OK, []string{"1 1 8 take 0 300 40 1", "1 2 8 take 0 300 40 1"}}, // of what nobody knows, and more than there is
	} {
		l := posts(t, 3, c.lines...)
		want := 0
		if c.e != api.OK {
			want = len(l) - 1
		}
		if i, e := pound.CheckRoll(3, l); i != want || e != c.e {
			t.Errorf("CheckRoll of %q: %d, error %d, want %d, error %d", c.lines, i, e, want, c.e)
		}
		// What stands behind the first one that is refused is not looked at.
		longer := append(slices.Clone(l), api.Posting{Reeve: -1})
		at, e := len(l), api.ErrArg
		if c.e != api.OK {
			at, e = want, c.e
		}
		if i, err := pound.CheckRoll(3, longer); i != at || err != e {
			t.Errorf("CheckRoll of %q and one more: %d, error %d, want %d, error %d", c.lines, i, err, at, e)
		}
	}
	if i, e := pound.CheckRoll(4, []api.Posting{{}}); i != 0 || e != api.ErrArg {
		t.Errorf("CheckRoll(4): %d, error %d", i, e)
	}
}

// randomPosting returns one behind others, which often makes no valid roll.
func randomPosting(r *rand.Rand, n int, l []api.Posting) api.Posting {
	p := api.Posting{Reeve: r.IntN(n), Tick: r.IntN(4), Owner: 1 + r.IntN(2), Amount: 1 + r.IntN(9), Number: 1}
	if len(l) > 0 {
		last := l[len(l)-1]
		p.Reeve, p.Number = last.Reeve, last.Number+1
		if r.IntN(3) == 0 && last.Reeve < n-1 || r.IntN(40) == 0 {
			p.Reeve, p.Number = r.IntN(n), 1
		}
	}
	p.Kind = pick(r, api.PostFine, api.PostFee, api.PostTake, api.PostTake, api.PostPay, api.PostPay, api.PostWaive)
	switch p.Kind {
	case api.PostFine, api.PostFee:
		p.Case, p.Amount = n*r.IntN(6)+p.Reeve, 10+r.IntN(20)
	case api.PostTake:
		p.Of = ref(r.IntN(n), 1+r.IntN(3))
	default:
		p.Of = ref(p.Reeve, 1+r.IntN(max(p.Number-1, 1)))
		if p.Kind == api.PostPay && r.IntN(2) == 0 {
			p.By = ref(r.IntN(n), 1+r.IntN(6))
		}
	}
	if r.IntN(60) == 0 {
		*pick(r, fields(&p)...) = pick(r, edges()...)
	}
	return p
}

// randomRoll returns a valid roll.
func randomRoll(r *rand.Rand, n, postings int) []api.Posting {
	var l []api.Posting
	for range postings {
		p := randomPosting(r, n, l)
		if _, e := checked(n, append(slices.Clone(l), p)); e == api.OK {
			l = append(l, p)
		}
	}
	return l
}

// P9.1, J4 to J6: rolls at random, with all errors.
func TestRollsAtRandom(t *testing.T) {
	r := random(3)
	errors, owing, open := map[api.Errno]int{}, 0, 0
	for range 3000 {
		n := pick(r, 3, 5)
		l := randomRoll(r, n, r.IntN(40))
		for range r.IntN(3) {
			l = append(l, randomPosting(r, n, l))
		}
		at, want := checked(n, l)
		errors[want]++
		if i, e := pound.CheckRoll(n, l); i != at || e != want {
			t.Fatalf("CheckRoll of %v: %d, error %d, want %d, error %d", l, i, e, at, want)
		}
		for reeve := -1; reeve <= n; reeve++ {
			var refs []api.Ref
			if want == api.OK {
				refs = unsettledOf(l, reeve)
			}
			open += len(refs)
			if got, e := pound.Unsettled(n, l, reeve); !slices.Equal(got, refs) || e != want {
				t.Errorf("Unsettled(%v, %d): %v, error %d, want %v, error %d", l, reeve, got, e, refs, want)
			}
			for number := range 10 {
				of, e := ref(reeve, number), want
				owes := 0
				if _, is := found(l, of); want == api.OK && !is {
					e = api.ErrNone
				} else if want == api.OK {
					owes = owedOf(l, of)
				}
				if owes > 0 {
					owing++
				}
				if got, err := pound.Owed(n, l, of); got != owes || err != e {
					t.Errorf("Owed(%v, %v): %d, error %d, want %d, error %d", l, of, got, err, owes, e)
				}
			}
		}
		sum := 0
		for account := -1; account <= 201; account++ {
			balance := 0
			if want == api.OK {
				balance = balanceOf(l, account)
			}
			sum += balance
			if got, e := pound.Balance(n, l, account); got != balance || e != want {
				t.Errorf("Balance(%v, %d): %d, error %d, want %d, error %d", l, account, got, e, balance, want)
			}
		}
		if sum != 0 {
			t.Errorf("the balances of %v add up to %d", l, sum)
		}
	}
	for _, e := range []api.Errno{api.OK, api.ErrArg, api.ErrState, api.ErrTwice, api.ErrNone} {
		if errors[e] < 100 {
			t.Errorf("error %d came %d times", e, errors[e])
		}
	}
	if owing < 1000 || open < 200 {
		t.Errorf("%d owed, %d unsettled", owing, open)
	}
}

// J5, J6: the errors of CheckRoll come first; a reeve or an account that there is not has nothing.
func TestQuestionsOfRolls(t *testing.T) {
	l := posts(t, 3, "0 1 8 fine 3 12 40", "0 2 8 pay 1 12 30 by 1 1", "0 3 8 pay 1 12 4", "1 1 8 take 0 1 12 30", "1 2 9 take 0 1 13 5", "1 3 9 take 0 1 12 6", "1 4 9 take 0 2 12 5", "2 1 9 take 0 1 12 7", "2 2 9 take 1 1 12 7", "2 3 9 take 0 4 12 7")
	if refs, e := pound.Unsettled(3, l, 0); e != api.OK || fmt.Sprint(refs) != "[{1 3} {2 1}]" {
		t.Errorf("Unsettled: %v, error %d", refs, e)
	}
	if owed, e := pound.Owed(3, l, ref(0, 1)); e != api.OK || owed != 6 {
		t.Errorf("Owed: %d, error %d", owed, e)
	}
	for _, of := range []api.Ref{ref(0, 2), ref(0, 0), ref(0, 4), ref(-1, 1), ref(3, 1), ref(5, 1), ref(1, 1), ref(math.MinInt, math.MaxInt)} {
		if owed, e := pound.Owed(3, l, of); e != api.ErrNone || owed != 0 {
			t.Errorf("Owed of %v: %d, error %d", of, owed, e)
		}
	}
	for _, reeve := range []int{1, 2, 3, 4, 5, -1, math.MaxInt, math.MinInt} {
		if refs, e := pound.Unsettled(3, l, reeve); e != api.OK || len(refs) != 0 {
			t.Errorf("Unsettled of %d: %v, error %d", reeve, refs, e)
		}
	}
	for account, want := range map[int]int{0: -40, 12: 6, 100: 4, 101: 46, 102: 21, 200: -37, 13: 0, 41: 0, 103: 0, -1: 0, math.MaxInt: 0} {
		if got, e := pound.Balance(3, l, account); e != api.OK || got != want {
			t.Errorf("Balance of %d: %d, error %d, want %d", account, got, e, want)
		}
	}
	wrong := append(l, api.Posting{})
	if _, e := pound.Owed(3, wrong, ref(0, 2)); e != api.ErrArg {
		t.Errorf("Owed: error %d", e)
	}
	if _, e := pound.Unsettled(3, wrong, 0); e != api.ErrArg {
		t.Errorf("Unsettled: error %d", e)
	}
	if _, e := pound.Balance(3, wrong, 0); e != api.ErrArg {
		t.Errorf("Balance: error %d", e)
	}
	if _, e := pound.Balance(4, l, 0); e != api.ErrArg {
		t.Errorf("Balance of 4 reeves: error %d", e)
	}
}
