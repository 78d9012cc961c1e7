package manor

import (
	"strings"

	"couchant/api"
)

// hexDigits are the digits of hexadecimal numbers.
const hexDigits = "0123456789abcdef"

func isKind(kind uint8) bool { return api.EntFell <= kind && kind <= api.EntNote }

// isEntry tells whether an entry is well-formed.
func isEntry(x api.Entry) bool {
	return within(x.Seq, 0, api.MaxEntries-1) && isDay(x.Day) && isKind(x.Kind) && len(x.Body) <= api.MaxBody
}

// headOf returns a word and the numbers of an entry.
func headOf(word string, x api.Entry) string {
	return behind(word, x.Seq, x.Day, int(x.Kind), len(x.Body))
}

// PutEntry returns the text of an entry.
func PutEntry(x api.Entry) (string, api.Errno) {
	if !isEntry(x) {
		return "", api.ErrArg
	}
	return headOf("entry", x) + "\nprev " + hexOf(x.Prev) + "\n" + x.Body, api.OK
}

// hexOf returns the hexadecimal digits of a digest.
func hexOf(h api.Hash) string {
	var b strings.Builder
	for _, x := range h {
		b.WriteByte(hexDigits[x>>4])
		b.WriteByte(hexDigits[x&15])
	}
	return b.String()
}

// GetEntry returns the entry with a text.
func GetEntry(s string) (api.Entry, api.Errno) {
	var x api.Entry
	e := attempt[api.Errno](func() { x = readEntry(s) })
	return x, e
}

// readEntry returns the entry with a text, and gives up if there is none.
func readEntry(s string) api.Entry {
	head, rest, _ := strings.Cut(s, "\n")
	prev, body, _ := strings.Cut(rest, "\n")
	words := exactly(5, head)
	n := numbers(words[1:4]...)
	x := api.Entry{Seq: n[0], Day: n[1], Kind: uint8(n[2]), Body: body, Prev: hashOf(strings.TrimPrefix(prev, "prev "))}
	// Putting the entry again shows what else is wrong with the text.
	text, e := PutEntry(x)
	need(e == api.OK && text == s, api.ErrForm)
	return x
}

// hashOf returns the digest with hexadecimal digits (some digest, if they are wrong).
func hashOf(digits string) api.Hash {
	var h api.Hash
	need(len(digits) == 2*len(h), api.ErrForm)
	for i := range h {
		high, low := strings.IndexByte(hexDigits, digits[2*i]), strings.IndexByte(hexDigits, digits[2*i+1])
		h[i] = byte(high<<4 | low)
	}
	return h
}

// Digest returns the digest of a well-formed entry.
func Digest(x api.Entry) api.Hash {
	if !isEntry(x) {
		return api.Hash{}
	}
	return Sum([]byte(headOf("e", x) + "\n" + x.Body + string(x.Prev[:])))
}

// row is linked entries: how many there are, the Day of the last one, and what the next one has to have as Prev.
type row struct {
	length, day int
	prev        api.Hash
}

// refusal returns why an entry does not belong behind the others.
func (r row) refusal(x api.Entry) api.Errno {
	switch {
	case r.length >= api.MaxEntries:
		return api.ErrLimit
	case !isEntry(x) || x.Seq != r.length:
		return api.ErrArg
	case x.Day < r.day:
		return api.ErrTime
	case x.Prev != r.prev:
		return api.ErrLink
	}
	return api.OK
}

// with returns the row with an entry that belongs behind the others.
func (r row) with(x api.Entry) row { return row{length: r.length + 1, day: x.Day, prev: Digest(x)} }

// next returns the entry that would be linked behind the others.
func (r row) next(day int, kind uint8, body string) (api.Entry, api.Errno) {
	switch {
	case r.length >= api.MaxEntries:
		return api.Entry{}, api.ErrLimit
	case !isDay(day) || !isKind(kind):
		return api.Entry{}, api.ErrArg
	case len(body) > api.MaxBody:
		return api.Entry{}, api.ErrLimit
	case day < r.day:
		return api.Entry{}, api.ErrTime
	}
	return api.Entry{Seq: r.length, Day: day, Kind: kind, Body: body, Prev: r.prev}, api.OK
}

// rowOf returns the row of entries, as far as they are linked, and why the next one does not belong there.
func rowOf(l []api.Entry) (row, api.Errno) {
	var r row
	for _, x := range l {
		if e := r.refusal(x); e != api.OK {
			return r, e
		}
		r = r.with(x)
	}
	return r, api.OK
}

// Linked checks a list of entries: it returns the index of the first one that does not belong there, and the error.
func Linked(l []api.Entry) (int, api.Errno) {
	r, e := rowOf(l)
	if e == api.OK {
		return 0, api.OK
	}
	return r.length, e
}

// Next returns the entry that would be linked behind a list.
func Next(l []api.Entry, day int, kind uint8, body string) (api.Entry, api.Errno) {
	r, e := rowOf(l)
	if e != api.OK {
		return api.Entry{}, e
	}
	return r.next(day, kind, body)
}
