package manor_test

import (
	"fmt"
	"math/rand/v2"
	"reflect"
	"slices"
	"strings"
	"testing"

	"couchant/api"
	"couchant/manor"
)

// sameBooks tells whether books say the same; lists without anything are equal.
func sameBooks(a, b api.Books) bool {
	return fmt.Sprintf("%+v", a) == fmt.Sprintf("%+v", b) && reflect.DeepEqual(a.Fell, b.Fell)
}

// asModel asks that Check and Told return what the model does.
func asModel(t *testing.T, l []api.Entry) api.Finding {
	t.Helper()
	got := manor.Check(l)
	want, books := modelCheck(l)
	if got != want {
		t.Fatalf("Check of %q: %+v, want %+v", bodies(l), got, want)
	}
	if told := manor.Told(l); !sameBooks(told, books) {
		t.Fatalf("Told of %q: %+v, want %+v", bodies(l), told, books)
	}
	return got
}

// changed returns entries of which one is another one, linked again or not.
func changed(r *rand.Rand, l []api.Entry) []api.Entry {
	l = slices.Clone(l)
	i := r.IntN(len(l))
	x := &l[i]
	switch r.IntN(12) {
	case 0:
		x.Day += pick(r, 1, -1, 100000)
	case 1:
		x.Kind = uint8(r.IntN(13))
	case 2:
		x.Seq += pick(r, 1, -1, 600)
	case 3:
		x.Prev[r.IntN(32)]++
	case 4:
		l = slices.Delete(l, i, i+1)
	case 5:
		l = slices.Insert(l, i, l[r.IntN(len(l))])
	case 6:
		j := r.IntN(len(l))
		l[i], l[j] = l[j], l[i]
	default:
		x.Body = otherText(r, x.Body)
	}
	if len(l) > 0 && r.IntN(5) > 0 {
		l = relinked(l)
	}
	return l
}

// otherText returns a text that differs from another one in a word or a byte.
func otherText(r *rand.Rand, s string) string {
	w := strings.Split(s, " ")
	i := r.IntN(len(w))
	switch r.IntN(7) {
	case 0:
		w[i] = fmt.Sprint(r.IntN(30))
	case 1:
		w[i] = pick(r, "", "by", "void", "sheep", "cow", "none", "open", "upper", "01", "-1", "9999999999", "high", "\n")
	case 2:
		w = append(w, pick(r, "", "1", "by 3 1 1"))
	case 3:
		w = w[:len(w)-1]
	case 4:
		return s + pick(r, "\n", " ", "x", strings.Repeat("x", 1900))
	default:
		if len(s) > 0 {
			at := r.IntN(len(s))
			return s[:at] + pick(r, "0", "1", "7", " ", "x", "\n", "") + s[at+1:]
		}
	}
	return strings.Join(w, " ")
}

// K7: Check and Told against the model, with random transcripts and what they become when something in them is changed.
func TestCheckAsModel(t *testing.T) {
	r := random(1)
	counts := map[string]int{}
	for range 240 {
		s := setups(r)
		l, _, e := manor.Process(s, papers(t, r, s, 10+r.IntN(60)))
		mustOK(t, "Process", e)
		if x := asModel(t, l); !x.Ok {
			t.Fatalf("Check of a transcript: %+v", x)
		}
		for _, x := range manor.Told(l).Steps {
			counts[fmt.Sprint("step ", x.Kind, " ", x.Verdict)]++
		}
		for range 12 {
			l := changed(r, l)
			x := asModel(t, l)
			kind := uint8(0)
			if !x.Ok && x.At < len(l) {
				kind = l[x.At].Kind
			}
			counts[fmt.Sprint(x.What, " ", kind)]++
		}
	}
	for _, key := range []string{"0 0", "1 4", "1 9", "2 1", "2 4", "3 1", "3 2", "3 3", "3 4", "3 5", "3 6", "3 7", "3 8", "3 9", "3 10", "3 11", "4 4", "4 5", "4 6", "4 7", "4 8", "5 8", "6 9", "7 10", "step 1 0", "step 2 0", "step 3 0", "step 4 0", "step 5 1", "step 5 2", "step 5 3", "step 6 0"} {
		if counts[key] < 3 {
			t.Errorf("what is wrong and with which kind: %s only %d times (%v)", key, counts[key], counts)
		}
	}
}

// K7: what is wrong with an entry, by its Kind, and the first of several things.
func TestFindings(t *testing.T) {
	begin := transcript(t, "table equal sheep 0 1 4", "deed 0 enter 7 5040", "recount 0 3 100 95", "count stay 7 sheep high 1 3 19 0", "report stay 7 sheep low 1 0 0", "step complain 7 1 over", "step summon 1", "bound 7 sheep 1", "note a", "day 21", "note b")
	if x := manor.Check(begin); x != (api.Finding{Ok: true}) {
		t.Fatalf("Check: %+v", x)
	}
	type last struct {
		day  int
		kind uint8
		body string
		what uint8
	}
	for _, x := range []last{
		{0, api.EntNote, "a", api.FindLink}, {20, api.EntFell, "x", api.FindLink}, {21, api.EntFell, begin[0].Body, api.FindFirst}, {21, api.EntRules, "x", api.FindFirst}, {21, api.EntHouse, "house 0 0", api.FindFirst},
		{21, api.EntEqual, "2 21 equal sheep 0 1 4", 0}, {21, api.EntEqual, "2 21 void 1", 0}, {21, api.EntEqual, "2 21 equal sheep 0 2 4", api.FindForm}, {21, api.EntEqual, "2 20 equal sheep 0 1 4", api.FindRecord}, {21, api.EntEqual, "3 21 equal sheep 0 1 4", api.FindRecord},
		{21, api.EntEqual, "1 21 equal sheep 0 1 4", api.FindRecord}, {21, api.EntEqual, "2 21 void 2", api.FindRecord}, {21, api.EntEqual, "2 22 equal sheep 0 1 4", api.FindRecord}, {21, api.EntEqual, "2 21 0 enter 7 5040", api.FindForm}, {21, api.EntEqual, "", api.FindForm},
		{21, api.EntDeed, "2 21 0 enter 7 5040", 0}, {21, api.EntDeed, "2 21 0 enter 41 5040", api.FindForm}, {21, api.EntDeed, "2 0 0 enter 7 5040", api.FindRecord}, {21, api.EntDeed, "3 21 0 enter 7 5040", api.FindRecord}, {21, api.EntDeed, "2 21 0 redeem 1", api.FindRecord},
		{21, api.EntRecount, "2 21 0 3 100 95", 0}, {21, api.EntRecount, "2 21 0 3 0 95", api.FindForm}, {21, api.EntRecount, "2 20 0 3 100 95", api.FindRecord}, {21, api.EntRecount, "3 21 0 3 100 95", api.FindRecord},
		{21, api.EntReport, "3 21 stay 7 sheep low 1 0 0", 0}, {21, api.EntReport, "3 21 void 1", 0}, {21, api.EntReport, "3 21 stay 7 sheep moor 1 0 0", api.FindForm}, {21, api.EntReport, "3 20 stay 7 sheep low 1 0 0", api.FindRecord}, {21, api.EntReport, "2 21 stay 7 sheep low 1 0 0", api.FindRecord},
		{21, api.EntReport, "3 21 void 3", api.FindRecord}, {21, api.EntReport, "3 21 stay 7 sheep low 1 0 0 by 3 0 0", api.FindForm},
		{21, api.EntCount, "3 21 stay 7 sheep low 1 19 20 by 3 19 0", 0}, {21, api.EntCount, "3 21 stay 7 sheep low 1 10 10 by 4 10 0", 0}, {21, api.EntCount, "3 21 void 1 by 3 19 0", api.FindForm}, {21, api.EntCount, "3 21 stay 7 sheep low 1 19 20", api.FindForm},
		{21, api.EntCount, "3 21 stay 7 sheep low 1 19 20 by 3 19", api.FindForm}, {21, api.EntCount, "3 21 stay 7 sheep low 1 19 20 by 3 19 0 1", api.FindForm}, {21, api.EntCount, "3 21 stay 7 sheep low 1 19 20 by 3 019 0", api.FindForm}, {21, api.EntCount, "3 21 stay 7 sheep low 1 19 20 by 3 19 -0", api.FindForm},
		{21, api.EntCount, "3 21 stay 7 sheep low 1 19 20  by 3 19 0", api.FindForm}, {21, api.EntCount, "3 21 stay 7 sheep low 1 19 20 by 3 19 0\n", api.FindForm}, {21, api.EntCount, "by 3 19 0", api.FindForm}, {21, api.EntCount, " by 3 19 0", api.FindForm}, {21, api.EntCount, "", api.FindForm}, {21, api.EntCount, "3 19 0", api.FindForm},
		{21, api.EntCount, "3 21 stay 7 sheep moor 1 19 20 by 3 19 0", api.FindForm}, {21, api.EntCount, "3 20 stay 7 sheep low 1 19 20 by 3 19 0", api.FindRecord}, {21, api.EntCount, "4 21 stay 7 sheep low 1 19 20 by 3 19 0", api.FindRecord}, {21, api.EntCount, "4 21 stay 7 sheep low 1 18 20 by 3 19 0", api.FindRecord},
		{21, api.EntCount, "3 21 stay 7 sheep low 1 18 20 by 3 19 0", api.FindCount}, {21, api.EntCount, "3 21 stay 7 sheep low 1 19 21 by 3 19 0", api.FindCount}, {21, api.EntCount, "3 21 stay 7 sheep low 1 19 20 by 4 19 0", api.FindCount}, {21, api.EntCount, "3 21 stay 7 sheep low 1 19 20 by 41 19 0", api.FindCount},
		{21, api.EntCount, "3 21 stay 7 sheep low 1 1000 1000 by 4 1001 0", api.FindCount}, {21, api.EntCount, "3 21 stay 7 sheep low 1 0 0 by 4 1001 0", api.FindCount}, {21, api.EntCount, "3 21 stay 7 sheep low 1 999 1000 by 4 999 9", 0}, {21, api.EntCount, "3 21 stay 7 sheep low 1 999 1000 by 4 999 1234567890", api.FindForm},
		{21, api.EntCount, "3 21 stay 7 sheep low 1 999 1000 by 4 999 123456789", api.FindCount}, {21, api.EntCount, "3 21 stay 7 sheep low 1 19 20 to 3 19 0", api.FindForm},
		{21, api.EntStep, "3 21 complain 7 1 over", 0}, {21, api.EntStep, "3 21 complain 7 25 over", api.FindForm}, {21, api.EntStep, "3 20 complain 7 1 over", api.FindStep}, {21, api.EntStep, "4 21 complain 7 1 over", api.FindStep}, {21, api.EntStep, "3 21 complain 7 1 none", api.FindStep},
		{22, api.EntStep, "3 21 complain 7 1 over", api.FindStep}, {21, api.EntStep, "3 21 judge 1 sure 45", 0}, {21, api.EntStep, "3 21 judge 1 sure 46", api.FindStep}, {21, api.EntStep, "3 21 judge 1 none", api.FindStep}, {21, api.EntStep, "3 21 reply 1", api.FindStep}, {21, api.EntStep, "3 21 judge 2 none", api.FindStep},
		{21, api.EntBound, "bound 7 sheep 1 19 20 lower 1 upper 1 2", 0}, {21, api.EntBound, "bound 8 cow 0 0 2000 lower upper", 0}, {21, api.EntBound, "bound 7 sheep 1", api.FindTold}, {21, api.EntBound, "bound 7 sheep 1 ", api.FindTold}, {21, api.EntBound, "bound 7 sheep 1 19 20 lower 1 upper 2", api.FindTold},
		{21, api.EntBound, "bound 7 sheep 1 19 21 lower 1 upper 1 2", api.FindTold}, {21, api.EntBound, "bound 7 sheep 1 19 20 lower 1 upper 1 2 ", api.FindTold}, {21, api.EntBound, "bound 7 sheep 1 19 20 lower 1 upper 1 2\n", api.FindTold}, {21, api.EntBound, "bound 7 sheep 3 19 20 lower 1 upper 1 2", api.FindTold},
		{21, api.EntBound, "bound 41 sheep 1 x", api.FindTold}, {21, api.EntBound, "bound 7 Sheep 1", api.FindTold}, {21, api.EntBound, "bound 7 sheep", api.FindForm}, {21, api.EntBound, "bound 7 sheep ", api.FindForm}, {21, api.EntBound, "bound 7  1", api.FindForm}, {21, api.EntBound, "bound x sheep 1", api.FindForm},
		{21, api.EntBound, "bound 7 sheep x", api.FindForm}, {21, api.EntBound, "bound 07 sheep 1", api.FindForm}, {21, api.EntBound, "bound 7 sheep 1234567890", api.FindForm}, {21, api.EntBound, "bound 7 sheep 123456789", api.FindTold}, {21, api.EntBound, "bond 7 sheep 1", api.FindForm}, {21, api.EntBound, "", api.FindForm},
		{21, api.EntBound, "bound 7 sheep 1\n", api.FindForm},
		{21, api.EntNote, "", 0}, {21, api.EntNote, strings.Repeat("x", 1900), 0}, {21, api.EntNote, strings.Repeat("x", 1901), api.FindForm}, {21, api.EntNote, "\n", api.FindForm}, {100000, api.EntNote, "\x00\xff", 0},
	} {
		l := with(t, begin, max(x.day, 21), x.kind, x.body)
		l[len(l)-1].Day = x.day
		want := api.Finding{At: len(begin), What: x.what}
		if x.what == 0 {
			want = api.Finding{Ok: true}
		}
		if got := asModel(t, l); got != want {
			t.Errorf("Check with %d %d %q: %+v, want %+v", x.day, x.kind, x.body, got, want)
		}
		// What stands behind it changes nothing.
		if got := manor.Check(append(l, l[0])); x.what != 0 && got != want {
			t.Errorf("Check with something behind %q: %+v, want %+v", x.body, got, want)
		}
	}
}

// K7: what is wrong with the three first entries, and with too few and too many.
func TestFirstEntries(t *testing.T) {
	begin := transcript(t)
	for n := range 3 {
		if x := asModel(t, begin[:n]); x != (api.Finding{At: n, What: api.FindFirst}) {
			t.Errorf("Check of %d entries: %+v", n, x)
		}
	}
	for _, x := range []struct {
		at, day int
		kind    uint8
		body    string
		what    uint8
	}{
		{0, 0, api.EntRules, rulesS, api.FindFirst}, {0, 1, api.EntFell, fellS, api.FindFirst}, {0, 0, api.EntFell, "# a fell\n" + fellS, api.FindForm}, {0, 0, api.EntFell, strings.TrimSuffix(fellS, "\n"), api.FindForm}, {0, 0, api.EntFell, "", api.FindForm}, {0, 0, api.EntFell, fellS + "x\n", api.FindForm},
		{0, 0, api.EntNote, "", api.FindFirst}, {1, 0, api.EntHouse, "house 0 0", api.FindFirst}, {1, 1, api.EntRules, begin[1].Body, api.FindFirst}, {1, 0, api.EntRules, rulesS, api.FindForm}, {1, 0, api.EntRules, "", 0}, {1, 0, api.EntRules, "x", api.FindForm}, {1, 0, api.EntRules, "\n", api.FindForm},
		{2, 0, api.EntHouse, "house 500 500", 0}, {2, 0, api.EntHouse, "house 501 0", api.FindForm}, {2, 0, api.EntHouse, "house 0 501", api.FindForm}, {2, 0, api.EntHouse, "house 0", api.FindForm}, {2, 0, api.EntHouse, "house 0 0 0", api.FindForm}, {2, 0, api.EntHouse, "house 00 0", api.FindForm}, {2, 0, api.EntHouse, "house 0 0 ", api.FindForm},
		{2, 0, api.EntHouse, "house  0 0", api.FindForm}, {2, 0, api.EntHouse, "mouse 0 0", api.FindForm}, {2, 0, api.EntHouse, "house -1 0", api.FindForm}, {2, 0, api.EntHouse, "house x 0", api.FindForm}, {2, 0, api.EntHouse, "", api.FindForm}, {2, 0, api.EntHouse, "house 0 0\n", api.FindForm}, {2, 1, api.EntHouse, "house 0 0", api.FindFirst},
		{2, 0, api.EntNote, "", api.FindFirst}, {2, 0, api.EntFell, fellS, api.FindFirst},
	} {
		l := slices.Clone(begin)
		l[x.at].Day, l[x.at].Kind, l[x.at].Body = x.day, x.kind, x.body
		l = relinked(l)
		for i := x.at + 1; i < 3; i++ {
			l[i].Day = max(l[i].Day, x.day)
		}
		want := api.Finding{At: x.at, What: x.what}
		if x.what == 0 {
			want = api.Finding{Ok: true}
		}
		if got := asModel(t, relinked(l)); got != want {
			t.Errorf("Check with %d %d %d %q: %+v, want %+v", x.at, x.day, x.kind, x.body, got, want)
		}
	}
	full := slices.Clone(begin)
	for range 597 {
		full = append(full, api.Entry{Kind: api.EntNote})
	}
	full = relinked(full)
	if x := manor.Check(full); !x.Ok {
		t.Errorf("Check of 600 entries: %+v", x)
	}
	if x := manor.Check(append(full, full[0])); x != (api.Finding{At: 600, What: api.FindLink}) {
		t.Errorf("Check of 601 entries: %+v", x)
	}
	if b := manor.Told(append(full, full[0])); !sameBooks(b, manor.Told(begin)) {
		t.Errorf("Told of 601 entries: %+v", b)
	}
}

// K9: which fines of a roll were judged, and the order of the errors.
func TestBacked(t *testing.T) {
	s := setupS()
	l := transcriptOf(t, s, "table equal sheep 0 1 4", "deed 0 enter 7 5040", "count stay 7 sheep high 1 3 20 0", "report stay 7 sheep low 1 0 0", "step complain 7 1 over", "step complain 8 1 over", "step summon 1", "step summon 2", "day 21", "judge 1", "judge 2", "day 30", "report stay 7 sheep low 1 0 9", "report void 2", "report stay 7 sheep low 1 8 8", "step reopen 1", "judge 1")
	b := manor.Told(l)
	var lines []string
	for _, x := range b.Steps {
		line, _ := manor.WriteStep(x)
		lines = append(lines, line)
	}
	if !slices.Equal(lines[4:], []string{"5 21 judge 1 sure 48", "6 21 judge 2 open", "7 30 reopen 1", "8 30 judge 1 sure 72"}) {
		t.Fatalf("steps %q", lines)
	}
	fine := func(reeve, number, tick, id, owner, amount int) api.Posting {
		return api.Posting{Reeve: reeve, Number: number, Tick: tick, Kind: api.PostFine, Case: id, Owner: owner, Amount: amount}
	}
	fee := fine(1, 1, 0, 4, 9, 9)
	fee.Kind = api.PostFee
	take := api.Posting{Reeve: 2, Number: 1, Tick: 1, Kind: api.PostTake, Of: api.Ref{Reeve: 1, Number: 1}, Owner: 9, Amount: 5}
	for _, x := range []struct {
		l    []api.Entry
		n    int
		roll []api.Posting
		at   int
		e    api.Errno
	}{
		{l, 3, nil, 0, api.OK}, {l, 5, nil, 0, api.OK}, {l, 4, nil, 0, api.ErrArg}, {l, 3, []api.Posting{fee, take}, 0, api.OK}, {l[:2], 4, nil, 0, api.ErrLink}, {l[1:], 3, nil, 0, api.ErrLink}, {nil, 3, nil, 0, api.ErrLink},
		{l, 3, []api.Posting{fine(1, 1, 21, 1, 7, 48)}, 0, api.OK}, {l, 3, []api.Posting{fine(1, 1, 100, 1, 7, 48)}, 0, api.OK}, {l, 3, []api.Posting{fine(1, 1, 20, 1, 7, 48)}, 0, api.ErrProof}, {l, 3, []api.Posting{fine(1, 1, 30, 1, 7, 72)}, 0, api.OK}, {l, 3, []api.Posting{fine(1, 1, 29, 1, 7, 72)}, 0, api.ErrProof},
		{l, 3, []api.Posting{fine(1, 1, 30, 1, 7, 71)}, 0, api.ErrProof}, {l, 3, []api.Posting{fine(1, 1, 30, 1, 8, 72)}, 0, api.ErrProof}, {l, 3, []api.Posting{fine(2, 1, 30, 2, 8, 48)}, 0, api.ErrProof}, {l, 3, []api.Posting{fine(1, 1, 30, 4, 7, 48)}, 0, api.ErrProof}, {l, 5, []api.Posting{fine(0, 1, 30, 5, 7, 48)}, 0, api.ErrProof},
		{l, 3, []api.Posting{fee, fine(1, 2, 30, 1, 7, 72), take}, 0, api.OK}, {l, 3, []api.Posting{fee, fine(1, 2, 30, 1, 7, 73), take}, 1, api.ErrProof}, {l, 3, []api.Posting{fine(1, 2, 30, 1, 7, 73)}, 0, api.ErrState}, {l, 3, []api.Posting{fine(1, 1, 30, 1, 7, 73), fee}, 1, api.ErrState},
		{l, 3, []api.Posting{fine(1, 1, 30, 2, 7, 73)}, 0, api.ErrArg}, {l[:len(l)-1], 3, []api.Posting{fine(1, 1, 30, 1, 7, 72)}, 0, api.ErrProof}, {l[:3], 3, []api.Posting{fee, fine(1, 2, 30, 1, 7, 72)}, 1, api.ErrProof},
	} {
		if at, e := manor.Backed(x.l, x.n, x.roll); at != x.at || e != x.e {
			t.Errorf("Backed of %d entries and %v: %d, %d, want %d, %d", len(x.l), x.roll, at, e, x.at, x.e)
		}
	}
}

// K8: texts that write entries.
func TestPapers(t *testing.T) {
	texts := []string{"table equal sheep 0 1 4", "table void 1", "deed 0 enter 7 5040", "day 3", "recount 0 3 100 95", "count back 7 sheep lane 1 3 19 0", "report void 1", "step complain 7 1 over", "day 9", "bound 7 sheep 1", "note ", "note  a ", "day 40", "step summon 1", "day 100", "step judge 1 none"}
	l := transcript(t, texts...)
	got, e := manor.Papers(l)
	if e != api.OK || !slices.Equal(got, texts) {
		t.Errorf("Papers: %q, %d", got, e)
	}
	if got, e := manor.Papers(transcript(t, "day 7")); e != api.OK || len(got) > 0 {
		t.Errorf("Papers of three entries: %q, %d", got, e)
	}
	for _, l := range [][]api.Entry{nil, l[:2], l[1:], append(slices.Clone(l), l[0])} {
		if got, e := manor.Papers(l); e != api.ErrLink || len(got) > 0 {
			t.Errorf("Papers of what is no transcript: %q, %d", got, e)
		}
	}
}
