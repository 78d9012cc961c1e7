package pound

import (
	"strconv"
	"strings"

	"couchant/api"
)

// words of the kinds of postings.
var words = [api.PostWaive + 1]string{
	api.PostFine: "fine", api.PostFee: "fee", api.PostTake: "take", api.PostPay: "pay", api.PostWaive: "waive",
}

// numbers returns numbers, with a blank before each.
func numbers(l ...int) string {
	var b strings.Builder
	for _, n := range l {
		b.WriteByte(' ')
		b.WriteString(strconv.Itoa(n))
	}
	return b.String()
}

// lineOf returns the line of a well-formed posting.
func lineOf(p api.Posting) string {
	line := numbers(p.Reeve, p.Number, p.Tick)[1:] + " " + words[p.Kind]
	switch {
	case isCharge(p):
		line += numbers(p.Case)
	case p.Kind == api.PostTake:
		line += numbers(p.Of.Reeve, p.Of.Number)
	default:
		line += numbers(p.Of.Number)
	}
	line += numbers(p.Owner, p.Amount)
	if p.By != (api.Ref{}) {
		line += " by" + numbers(p.By.Reeve, p.By.Number)
	}
	return line
}

// Write returns the line of a posting of one of n reeves.
func Write(n int, p api.Posting) (string, api.Errno) {
	if e := CheckPosting(n, p); e != api.OK {
		return "", e
	}
	return lineOf(p), api.OK
}

// reader cuts the words off a line: word gives up when there are no more, which ends tells.
type reader struct {
	word func() string
	ends func() bool
}

func newReader(line string) reader {
	rest, more := line, true
	word := func() string {
		need(more, api.ErrForm)
		var next string
		next, rest, more = strings.Cut(rest, " ")
		return next
	}
	return reader{word: word, ends: func() bool { return !more }}
}

// number cuts off a number.
func (r reader) number() int {
	n, wrong := strconv.Atoi(r.word())
	need(wrong == nil, api.ErrForm)
	return n
}

// posting cuts off a posting, whose words and fields may be wrong.
func (r reader) posting() api.Posting {
	p := api.Posting{Reeve: r.number(), Number: r.number(), Tick: r.number()}
	p.Kind = kindOf(r.word())
	switch {
	case isCharge(p):
		p.Case = r.number()
	case p.Kind == api.PostTake:
		p.Of = api.Ref{Reeve: r.number(), Number: r.number()}
	default:
		p.Of = api.Ref{Reeve: p.Reeve, Number: r.number()}
	}
	p.Owner, p.Amount = r.number(), r.number()
	if !r.ends() {
		need(r.word() == "by", api.ErrForm)
		p.By = api.Ref{Reeve: r.number(), Number: r.number()}
	}
	return p
}

// kindOf returns the kind of postings with a word.
func kindOf(word string) uint8 {
	for kind := api.PostFine; kind <= api.PostWaive; kind++ {
		if words[kind] == word {
			return kind
		}
	}
	panic(api.ErrForm)
}

// readPosting returns the well-formed posting of one of n reeves that a line describes, and gives up without one.
func readPosting(n int, line string) api.Posting {
	p := newReader(line).posting()
	// Writing the posting again shows what else is wrong with the line.
	need(CheckPosting(n, p) == api.OK && lineOf(p) == line, api.ErrForm)
	return p
}

// Read returns the posting of one of n reeves that a line describes.
func Read(n int, line string) (api.Posting, api.Errno) {
	if !isCount(n) {
		return api.Posting{}, api.ErrArg
	}
	var p api.Posting
	e := attempt(func() { p = readPosting(n, line) })
	return p, e
}
