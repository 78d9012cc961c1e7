package pound

import (
	"strings"

	"couchant/api"
)

// message is what one reeve tells another one.
type message interface {
	// text returns the message as it is sent.
	text() string
}

// greeting is how many postings of each reeve somebody has.
type greeting []int

// letter is postings, in ascending order of their Refs.
type letter []api.Posting

// ask is that a reeve asks for a promise, by its request with a number.
type ask struct {
	reeve, number int
	tag           string
	until         int
}

// give is that a reeve has given another one a promise.
type give struct{ giver, reeve, number int }

// free is that a reeve needs no promises any more that were given by its requests up to a number.
type free struct {
	reeve, number int
	tag           string
}

func (m greeting) text() string { return "have" + numbers(m...) + "\n" }

func (m letter) text() string {
	var b strings.Builder
	b.WriteString("post" + numbers(len(m)) + "\n")
	for _, p := range m {
		b.WriteString(lineOf(p) + "\n")
	}
	return b.String()
}

func (m ask) text() string { return m.words() + "\n" }

func (m ask) words() string {
	return "ask" + numbers(m.reeve, m.number) + " " + m.tag + numbers(m.until)
}

func (m give) text() string { return "give" + numbers(m.giver, m.reeve, m.number) + "\n" }

func (m free) text() string { return m.words() + "\n" }

func (m free) words() string { return "free" + numbers(m.reeve, m.number) + " " + m.tag }

// readMessage returns the message of one of n reeves that has a text, and gives up without one.
func readMessage(n int, text string) message {
	line, rest, _ := strings.Cut(text, "\n")
	r := newReader(line)
	var m message
	switch word := r.word(); word {
	case "have":
		m = r.greeting(n)
	case "post":
		m = r.letter(n, rest)
	case "ask":
		m = r.ask(n)
	case "give":
		m = give{giver: r.reeve(n), reeve: r.reeve(n), number: r.request()}
	case "free":
		m = r.free(n)
	default:
		panic(api.ErrForm)
	}
	// Writing the message again shows what else is wrong with the text.
	need(m.text() == text, api.ErrForm)
	return m
}

// within cuts off a number from low to high.
func (r reader) within(low, high int) int {
	n := r.number()
	need(within(n, low, high), api.ErrForm)
	return n
}

func (r reader) reeve(n int) int { return r.within(0, n-1) }

func (r reader) request() int { return r.within(1, api.MaxRequests) }

func (r reader) tick() int { return r.within(0, api.MaxDay) }

func (r reader) tag() string {
	tag := r.word()
	need(isTag(tag), api.ErrForm)
	return tag
}

func (r reader) greeting(n int) greeting {
	var m greeting
	for range n {
		m = append(m, r.within(0, api.MaxPostings))
	}
	return m
}

// letter cuts off how many postings a letter has, and reads these from the lines behind it.
func (r reader) letter(n int, lines string) letter {
	var m letter
	for range r.within(1, api.MaxLetter) {
		var line string
		line, lines, _ = strings.Cut(lines, "\n")
		m = append(m, readPosting(n, line))
	}
	need(isAscending(m), api.ErrForm)
	return m
}

// isAscending tells whether the Refs of postings are in strictly ascending order.
func isAscending(l []api.Posting) bool {
	for i := range len(l) - 1 {
		if !comesBefore(refOf(l[i]), refOf(l[i+1])) {
			return false
		}
	}
	return true
}

func (r reader) ask(n int) ask {
	return ask{reeve: r.reeve(n), number: r.request(), tag: r.tag(), until: r.tick()}
}

func (r reader) free(n int) free {
	return free{reeve: r.reeve(n), number: r.request(), tag: r.tag()}
}
