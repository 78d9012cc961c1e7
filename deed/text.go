package deed

import (
	"strconv"
	"strings"

	"couchant/api"
)

// Write returns the line of a deed.
func Write(x api.Deed) (string, api.Errno) {
	if e := CheckDeed(x); e != api.OK {
		return "", e
	}
	fields := fieldsOf(&x)
	words := append(numbers(fields[:ahead]), shapes()[x.Kind].word)
	words = append(words, numbers(fields[ahead:])...)
	for i, heir := range x.Heirs {
		words = append(words, strconv.Itoa(heir), strconv.Itoa(x.Shares[i]))
	}
	return strings.Join(words, " "), api.OK
}

// numbers returns the numbers of the fields that are used.
func numbers(fields []field) []string {
	var words []string
	for _, f := range fields {
		if f.used {
			words = append(words, strconv.Itoa(*f.number))
		}
	}
	return words
}

// Read returns the well-formed deed with a line.
func Read(line string) (api.Deed, api.Errno) {
	x := parse(strings.Split(line, " "))
	// Writing it again finds whatever parse lets pass: signs, leading zeros, words that are no numbers, too few or too many.
	if again, e := Write(x); e != api.OK || again != line {
		return api.Deed{}, api.ErrForm
	}
	return x, api.OK
}

// parse returns the only deed that words can be of.
func parse(words []string) api.Deed {
	x := api.Deed{Kind: kindOf(words)}
	next := func() int {
		if len(words) == 0 {
			return 0
		}
		n, _ := strconv.Atoi(words[0])
		words = words[1:]
		return n
	}
	take := func(fields []field) {
		for _, f := range fields {
			if f.used {
				*f.number = next()
			}
		}
	}
	fields := fieldsOf(&x)
	take(fields[:ahead])
	next()
	take(fields[ahead:])
	for shapes()[x.Kind].kin && len(words) > 0 {
		x.Heirs = append(x.Heirs, next())
		x.Shares = append(x.Shares, next())
	}
	return x
}

// kindOf returns the kind that the words of a line name, 0 if they name none.
func kindOf(words []string) uint8 {
	for kind, s := range shapes() {
		at := 2
		if s.day {
			at = 3
		}
		if s.word != "" && at < len(words) && words[at] == s.word {
			return uint8(kind)
		}
	}
	return 0
}
