package manor_test

import (
	"crypto/sha256"
	"encoding/hex"
	"fmt"
	"math"
	"slices"
	"strings"
	"testing"

	"couchant/api"
	"couchant/manor"
)

// K1: known digests, and those of messages of all short lengths and of some long ones.
func TestSum(t *testing.T) {
	for message, digest := range map[string]string{
		"":    "e3b0c44298fc1c149afbf4c8996fb92427ae41e4649b934ca495991b7852b855",
		"abc": "ba7816bf8f01cfea414140de5dae2223b00361a396177a9cb410ff61f20015ad",
		"abcdbcdecdefdefgefghfghighijhijkijkljklmklmnlmnomnopnopq": "248d6a61d20638b8e5c026930c3e6039a33ce45964ff2167f6ecedd419db06c1",
		strings.Repeat("a", 1000000):                               "cdc76e5c9914fb9281a1c7e284d73e67f1809a48a497200e046d39ccc7112cd0",
	} {
		if got := manor.Sum([]byte(message)); hex.EncodeToString(got[:]) != digest {
			t.Errorf("Sum of %.60q: %x", message, got)
		}
	}
	r := random(3)
	for length := range 400 {
		b := make([]byte, length, length+r.IntN(200))
		for i := range b {
			b[i] = byte(r.Uint32())
		}
		before := slices.Clone(b[:cap(b)])
		if got := manor.Sum(b); got != sha256.Sum256(b) {
			t.Errorf("Sum of %x: %x", b, got)
		}
		if !slices.Equal(before, b[:cap(b)]) {
			t.Errorf("Sum changes its argument %x", b)
		}
	}
	if manor.Sum(nil) != manor.Sum([]byte{}) {
		t.Error("nil is another message than an empty one")
	}
}

// K2: texts and digests of entries.
func TestEntryTexts(t *testing.T) {
	x := api.Entry{Seq: 7, Day: 21, Kind: api.EntNote, Body: "a\nnote"}
	x.Prev[0], x.Prev[31] = 0xa0, 0x0f
	text := "entry 7 21 11 6\nprev a00000000000000000000000000000000000000000000000000000000000000f\na\nnote"
	if s, e := manor.PutEntry(x); s != text || e != api.OK {
		t.Errorf("PutEntry: %q, %d", s, e)
	}
	if y, e := manor.GetEntry(text); y != x || e != api.OK {
		t.Errorf("GetEntry: %v, %d", y, e)
	}
	if h := manor.Digest(x); h != sha256.Sum256([]byte("e 7 21 11 6\na\nnote"+string(x.Prev[:]))) {
		t.Errorf("Digest: %x", h)
	}
	for _, s := range []string{
		"", "\n", "\n\n", "entry 7 21 11 6", "entry 7 21 11 6\n", strings.Replace(text, "\n", "", 1), strings.Replace(text, "\n", " ", 1), strings.Replace(text, "entry 7", "entry 07", 1), strings.Replace(text, "entry 7", "entry +7", 1),
		strings.Replace(text, "entry 7", "entry  7", 1), strings.Replace(text, "entry 7", "entry 600", 1), strings.Replace(text, "entry 7", "entry -1", 1), strings.Replace(text, "entry 7", "Entry 7", 1), strings.Replace(text, "entry 7", " entry 7", 1),
		strings.Replace(text, "21", "100001", 1), strings.Replace(text, "11 6", "12 6", 1), strings.Replace(text, "11 6", "0 6", 1), strings.Replace(text, "11 6", "267 6", 1), strings.Replace(text, "11 6", "11 5", 1), strings.Replace(text, "11 6", "11 7", 1),
		strings.Replace(text, "11 6", "11 06", 1), strings.Replace(text, "11 6", "11 6 ", 1), strings.Replace(text, "11 6", "11 6 1", 1), strings.Replace(text, "11 6", "11", 1), text + "x", text[:len(text)-1], text + "\n",
		strings.Replace(text, "prev a", "prev A", 1), strings.Replace(text, "prev a", "prev g", 1), strings.Replace(text, "prev a0", "prev a", 1), strings.Replace(text, "prev a", "prev aa", 1), strings.Replace(text, "prev a", "prev  a", 1), strings.Replace(text, "prev a0", "a0", 1),
		strings.Replace(text, "prev a", "Prev a", 1), strings.Replace(text, "prev ", "prev prev ", 1), strings.Replace(text, "\nprev", "\r\nprev", 1), "entry 7 21 11 20001\n" + strings.Split(text, "\n")[1] + "\n" + strings.Repeat("x", 20001),
	} {
		if y, e := manor.GetEntry(s); y != (api.Entry{}) || e != api.ErrForm {
			t.Errorf("GetEntry(%.120q): %v, %d", s, y, e)
		}
	}
	for _, change := range []func(x *api.Entry){
		func(x *api.Entry) { x.Seq = 600 }, func(x *api.Entry) { x.Seq = -1 }, func(x *api.Entry) { x.Day = 100001 }, func(x *api.Entry) { x.Day = -1 },
		func(x *api.Entry) { x.Kind = 0 }, func(x *api.Entry) { x.Kind = 12 }, func(x *api.Entry) { x.Body = strings.Repeat("x", 20001) },
	} {
		y := x
		change(&y)
		if s, e := manor.PutEntry(y); s != "" || e != api.ErrArg || manor.Digest(y) != (api.Hash{}) {
			t.Errorf("PutEntry of an entry that is not well-formed: %.100q, %d", s, e)
		}
	}
	edges := []api.Entry{{Kind: 1}, {Seq: 599, Day: 100000, Kind: 11, Body: strings.Repeat("\x00", 20000)}}
	for _, y := range edges {
		s, e := manor.PutEntry(y)
		back, f := manor.GetEntry(s)
		if e != api.OK || f != api.OK || back != y || manor.Digest(y) != modelDigest(y) {
			t.Errorf("PutEntry at an edge: %.100q, %d, %d", s, e, f)
		}
	}
}

// notes returns so many linked notes.
func notes(n int) []api.Entry {
	var l []api.Entry
	for i := range n {
		l = append(l, api.Entry{Day: i / 10, Kind: api.EntNote, Body: fmt.Sprint(i)})
	}
	return relinked(l)
}

// K3: where entries are linked, and why not.
func TestLinked(t *testing.T) {
	l := notes(600)
	for _, n := range []int{0, 1, 2, 599, 600} {
		if i, e := manor.Linked(l[:n]); i != 0 || e != api.OK {
			t.Errorf("Linked of %d: %d, %d", n, i, e)
		}
	}
	more := append(slices.Clone(l), l[0])
	if i, e := manor.Linked(more); i != 600 || e != api.ErrLimit {
		t.Errorf("Linked of 601: %d, %d", i, e)
	}
	more[55].Day--
	if i, e := manor.Linked(more); i != 55 || e != api.ErrTime {
		t.Errorf("Linked of 601, of which another one does not belong there: %d, %d", i, e)
	}
	for _, x := range []struct {
		change func(x *api.Entry)
		i      int
		e      api.Errno
	}{
		{func(x *api.Entry) { x.Seq++ }, 5, api.ErrArg}, {func(x *api.Entry) { x.Seq, x.Day = 6, -1 }, 5, api.ErrArg}, {func(x *api.Entry) { x.Kind = 0 }, 5, api.ErrArg}, {func(x *api.Entry) { x.Day = 100001 }, 5, api.ErrArg},
		{func(x *api.Entry) { x.Body = strings.Repeat("x", 20001) }, 5, api.ErrArg}, {func(x *api.Entry) { x.Prev[3]++ }, 5, api.ErrLink}, {func(x *api.Entry) { x.Prev = api.Hash{} }, 5, api.ErrLink},
		{func(x *api.Entry) { x.Body += "x" }, 6, api.ErrLink}, {func(x *api.Entry) { x.Day = 1 }, 6, api.ErrTime}, {func(x *api.Entry) { x.Kind = 1 }, 6, api.ErrLink},
	} {
		l := notes(10)
		x.change(&l[5])
		if i, e := manor.Linked(l); i != x.i || e != x.e {
			t.Errorf("Linked: %d, %d, want %d, %d", i, e, x.i, x.e)
		}
		if y, e := manor.Next(l, -1, 0, ""); y != (api.Entry{}) || e != x.e {
			t.Errorf("Next: %v, %d, want %d", y, e, x.e)
		}
	}
	first := notes(1)
	first[0].Prev[0] = 1
	if i, e := manor.Linked(first); i != 0 || e != api.ErrLink {
		t.Errorf("Linked of one with a Prev: %d, %d", i, e)
	}
	late := []api.Entry{{Day: 7, Kind: 11}}
	if i, e := manor.Linked(late); i != 0 || e != api.OK {
		t.Errorf("Linked of one: %d, %d", i, e)
	}
}

// K3: what Next returns, and the order of its errors.
func TestNext(t *testing.T) {
	long := strings.Repeat("x", 20001)
	full := notes(600)
	for _, x := range []struct {
		l    []api.Entry
		day  int
		kind uint8
		body string
		e    api.Errno
	}{
		{nil, 0, 1, "", api.OK}, {nil, 100000, 11, long[1:], api.OK}, {nil, -1, 1, "", api.ErrArg}, {nil, 100001, 1, "", api.ErrArg}, {nil, 0, 0, "", api.ErrArg}, {nil, 0, 12, "", api.ErrArg},
		{nil, 0, 12, long, api.ErrArg}, {nil, 0, 11, long, api.ErrLimit}, {notes(20), 0, 11, long, api.ErrLimit}, {notes(20), 0, 11, "", api.ErrTime}, {notes(20), 1, 11, "", api.OK}, {notes(20), math.MinInt, 11, "", api.ErrArg},
		{full, -1, 0, long, api.ErrLimit}, {full, 100, 1, "", api.ErrLimit}, {full[:599], 100, 1, "", api.OK}, {append(slices.Clone(full), full[0]), 100, 1, "", api.ErrLimit},
	} {
		y, e := manor.Next(x.l, x.day, x.kind, x.body)
		if e != x.e || e != api.OK && y != (api.Entry{}) {
			t.Errorf("Next(%d entries, %d, %d, %d bytes): %d, want %d", len(x.l), x.day, x.kind, len(x.body), e, x.e)
		}
		if e != api.OK {
			continue
		}
		want := api.Entry{Seq: len(x.l), Day: x.day, Kind: x.kind, Body: x.body}
		if len(x.l) > 0 {
			want.Prev = manor.Digest(x.l[len(x.l)-1])
		}
		if i, e := manor.Linked(append(slices.Clone(x.l), y)); y != want || i != 0 || e != api.OK {
			t.Errorf("Next(%d entries, %d, %d): %v, and then Linked: %d, %d", len(x.l), x.day, x.kind, y, i, e)
		}
	}
}

// K3 and P10.11 against the model, with linked entries of which some are changed.
func TestLinkedAsModel(t *testing.T) {
	r := random(4)
	counts := map[api.Errno]int{}
	for range 4000 {
		var l []api.Entry
		day := 0
		for range 1 + r.IntN(8) {
			day += pick(r, 0, 0, 1, 500)
			l = append(l, api.Entry{Day: day, Kind: uint8(1 + r.IntN(11)), Body: strings.Repeat(pick(r, "a", "\n", "\xff", " "), r.IntN(200))})
		}
		l = relinked(l)
		for range r.IntN(3) {
			if len(l) > 0 {
				l = changed(r, l)
			}
		}
		i, e := manor.Linked(l)
		want, f := modelLinked(l)
		counts[e]++
		if i != want || e != f {
			t.Fatalf("Linked of %q: %d, %d, want %d, %d", bodies(l), i, e, want, f)
		}
		for _, x := range l {
			s, e := manor.PutEntry(x)
			back, f := manor.GetEntry(s)
			if modelWellFormed(x) != (e == api.OK) || e == api.OK && (f != api.OK || back != x) || manor.Digest(x) != modelDigest(x) {
				t.Fatalf("PutEntry(%v): %q, %d; GetEntry of it: %v, %d", x, s, e, back, f)
			}
			if s = otherText(r, s); s != "" {
				y, e := manor.GetEntry(s)
				again, _ := manor.PutEntry(y)
				if e == api.OK && again != s || e != api.OK && (e != api.ErrForm || y != api.Entry{}) {
					t.Fatalf("GetEntry(%q): %v, %d", s, y, e)
				}
			}
		}
	}
	for _, e := range []api.Errno{api.OK, api.ErrArg, api.ErrTime, api.ErrLink} {
		if counts[e] < 50 {
			t.Errorf("error %d only %d times", e, counts[e])
		}
	}
}
