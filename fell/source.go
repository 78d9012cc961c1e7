package fell

import (
	"slices"
	"strconv"
	"strings"

	"couchant/api"
)

// maxDigits is how many digits a number in a source can have.
const maxDigits = 6

// source is a fell whose source is being read.
type source struct {
	fell  api.Fell
	begun bool
}

// forms returns what reads a line, by its first word; it panics with what is wrong with the line.
func forms() map[string]func(s *source, words []string) {
	return map[string]func(*source, []string){
		"fell": (*source).begin,
		"heaf": func(s *source, words []string) { s.place(words, api.PlaceHeaf) },
		"fold": func(s *source, words []string) { s.place(words, api.PlaceFold) },
		"gate": (*source).gate,
	}
}

// need panics with an error unless something holds.
func need(holds bool, e api.Errno) {
	if !holds {
		panic(e)
	}
}

// needWords panics unless a line has so many words.
func needWords(words []string, size int) { need(len(words) == size, api.ErrForm) }

// name returns a word, which has to be a name.
func name(word string) string {
	need(isName(word), api.ErrForm)
	return word
}

// number returns the number of a word, which has to be one.
func number(word string) int {
	need(len(word) <= maxDigits, api.ErrForm)
	n, _ := strconv.Atoi(word)
	// Writing it again finds leading zeros, and whatever is no number.
	need(n >= 0 && strconv.Itoa(n) == word, api.ErrForm)
	return n
}

func (s *source) begin(words []string) {
	needWords(words, 3)
	s.fell.Ticks, s.fell.Yield = number(words[1]), number(words[2])
	s.begun = true
}

func (s *source) place(words []string, kind uint8) {
	needWords(words, 2)
	s.fell.Places = append(s.fell.Places, api.Place{Name: name(words[1]), Kind: kind})
}

func (s *source) gate(words []string) {
	needWords(words, 5)
	g := api.Gate{Name: name(words[1]), Most: number(words[4])}
	// A line without a form is no gate, so its places are looked up behind all of it.
	a, b := name(words[2]), name(words[3])
	g.A, g.B = s.placeOf(a), s.placeOf(b)
	s.fell.Gates = append(s.fell.Gates, g)
}

// placeOf returns the index of a place, which has to be there already.
func (s *source) placeOf(name string) int {
	at := slices.Index(placeNames(s.fell), name)
	need(at >= 0, api.ErrPlace)
	return at
}

// read reads a line and returns what is wrong with it.
func (s *source) read(line string) (e api.Errno) {
	if line == "" || line[0] == '#' {
		return api.OK
	}
	defer func() {
		if wrong, is := recover().(api.Errno); is {
			e = wrong
		}
	}()
	words := strings.Split(line, " ")
	form, is := forms()[words[0]]
	need(is && s.begun == (words[0] != "fell"), api.ErrForm)
	form(s, words)
	return api.OK
}

// ParseFell returns the fell with a source, or what is wrong with that, and in which line.
func ParseFell(src string) (api.Fell, api.Fault) {
	if len(src) > api.MaxSource {
		return api.Fell{}, api.Fault{Err: api.ErrLimit}
	}
	var s source
	for i, line := range strings.Split(src, "\n") {
		if e := s.read(line); e != api.OK {
			return api.Fell{}, api.Fault{Err: e, Line: i + 1}
		}
	}
	if e := CheckFell(s.fell); e != api.OK {
		return api.Fell{}, api.Fault{Err: e}
	}
	return s.fell, api.Fault{}
}

// join returns a line of words.
func join(words ...string) string { return strings.Join(words, " ") }

// PrintFell returns the source of a valid fell.
func PrintFell(f api.Fell) string {
	if CheckFell(f) != api.OK {
		return ""
	}
	lines := []string{join("fell", strconv.Itoa(f.Ticks), strconv.Itoa(f.Yield))}
	for _, p := range f.Places {
		word := "heaf"
		if p.Kind == api.PlaceFold {
			word = "fold"
		}
		lines = append(lines, join(word, p.Name))
	}
	for _, g := range f.Gates {
		lines = append(lines, join("gate", g.Name, f.Places[g.A].Name, f.Places[g.B].Name, strconv.Itoa(g.Most)))
	}
	return strings.Join(lines, "\n") + "\n"
}
