package mark

import (
	"slices"
	"strconv"
	"strings"

	"couchant/api"
)

// words are those of the signs at a place, in the order of the signs.
type words [api.MaxSign + 1]string

func earWords() words { return words{"plain", "cropped", "forked", "ritted", "holed"} }

func smitWords() words { return words{"bare", "red", "blue", "green", "black"} }

// worn is the word of a place at which nothing can be told.
const worn = "worn"

// write returns the word of what is seen.
func (w words) write(seen uint8) string {
	if seen == api.Worn {
		return worn
	}
	return w[seen]
}

// read returns what is seen by a word; it panics if that is no word of the place.
func (w words) read(word string) uint8 {
	if word == worn {
		return api.Worn
	}
	sign := slices.Index(w[:], word)
	need(sign >= 0)
	return uint8(sign)
}

// need panics unless something holds.
func need(holds bool) {
	if !holds {
		panic(api.ErrForm)
	}
}

// readAll returns what is read of a line, which panics if the line has no form.
func readAll[T any](read func() T) (x T, e api.Errno) {
	defer func() {
		if recover() != nil {
			var none T
			x, e = none, api.ErrForm
		}
	}()
	return read(), api.OK
}

// readNumber returns the number of a word; it panics if there is none.
func readNumber(word string) int {
	n, _ := strconv.Atoi(word)
	// Writing it again finds signs, leading zeros, and whatever is no number.
	need(strconv.Itoa(n) == word)
	return n
}

func writeSigns(s signs) []string {
	ear, smit := earWords().write, smitWords().write
	var list []string
	for place, seen := range s {
		write := smit
		if isEar(place) {
			write = ear
		}
		list = append(list, write(seen))
	}
	return list
}

// readSigns returns what is seen by some words; it panics if these are not those of all places.
func readSigns(list []string) signs {
	need(len(list) == api.MarkPlaces)
	ear, smit := earWords().read, smitWords().read
	var s signs
	for place, word := range list {
		read := smit
		if isEar(place) {
			read = ear
		}
		s[place] = read(word)
	}
	return s
}

// Write returns the line of a mark.
func Write(m api.Mark) (string, api.Errno) {
	if !isMark(m) {
		return "", api.ErrArg
	}
	list := []string{strconv.Itoa(m.Owner), strconv.Itoa(m.From), strconv.Itoa(m.Until)}
	return strings.Join(append(list, writeSigns(m.Signs)...), " "), api.OK
}

// Read returns the mark with a line.
func Read(line string) (api.Mark, api.Errno) {
	return readAll(func() api.Mark {
		list := strings.Split(line, " ")
		need(len(list) > 3)
		m := api.Mark{Owner: readNumber(list[0]), From: readNumber(list[1]), Until: readNumber(list[2]), Signs: readSigns(list[3:])}
		need(isMark(m))
		return m
	})
}

// WriteSight returns the line of a sight.
func WriteSight(s api.Sight) (string, api.Errno) {
	if !isSight(s) {
		return "", api.ErrArg
	}
	return strings.Join(writeSigns(s.Signs), " "), api.OK
}

// ReadSight returns the sight with a line.
func ReadSight(line string) (api.Sight, api.Errno) {
	return readAll(func() api.Sight { return api.Sight{Signs: readSigns(strings.Split(line, " "))} })
}
