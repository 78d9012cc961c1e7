package share

import (
	"strconv"
	"strings"

	"couchant/api"
)

// Write returns the line of a record.
func Write(x api.Equal) (string, api.Errno) {
	if e := CheckEqual(x); e != api.OK {
		return "", e
	}
	if x.Of > 0 {
		return join(strconv.Itoa(x.Id), strconv.Itoa(x.Known), "void", strconv.Itoa(x.Of)), api.OK
	}
	return join(strconv.Itoa(x.Id), strconv.Itoa(x.Known), "equal", x.Sort,
		strconv.Itoa(x.From), strconv.Itoa(x.Stints.Num), strconv.Itoa(x.Stints.Den)), api.OK
}

func join(words ...string) string { return strings.Join(words, " ") }

// Read returns the well-formed record with a line.
func Read(line string) (api.Equal, api.Errno) {
	x := parse(strings.Split(line, " "))
	// Writing it again finds whatever parse lets pass: signs, leading zeros, words that are no numbers.
	if again, e := Write(x); e != api.OK || again != line {
		return api.Equal{}, api.ErrForm
	}
	return x, api.OK
}

// parse returns the only record that words can be of.
func parse(words []string) api.Equal {
	at := func(i int) int {
		n, _ := strconv.Atoi(words[i])
		return n
	}
	switch len(words) {
	case 4:
		return api.Equal{Id: at(0), Known: at(1), Of: at(3)}
	case 7:
		return api.Equal{Id: at(0), Known: at(1), Sort: words[3], From: at(4),
			Stints: api.Frac{Num: at(5), Den: at(6)}}
	}
	return api.Equal{}
}
