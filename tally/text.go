package tally

import (
	"strconv"
	"strings"

	"couchant/api"
)

// writeNumbers returns a line of numbers.
func writeNumbers(list ...int) string {
	var words []string
	for _, n := range list {
		words = append(words, strconv.Itoa(n))
	}
	return strings.Join(words, " ")
}

// readNumbers returns the numbers of a line, if it is one of so many numbers, as they are written.
func readNumbers(line string, size int) ([]int, bool) {
	words := strings.Split(line, " ")
	if len(words) != size {
		return nil, false
	}
	var list []int
	for _, word := range words {
		n, _ := strconv.Atoi(word)
		list = append(list, n)
	}
	// Writing them again finds signs, leading zeros, and whatever is no number.
	return list, writeNumbers(list...) == line
}

// Write returns the line of a tally.
func Write(c api.Count) (string, api.Errno) {
	if !isCount(c) {
		return "", api.ErrArg
	}
	return writeNumbers(c.Id, c.Day, c.Shepherd, c.Number, c.Worn), api.OK
}

// Read returns the tally with a line.
func Read(line string) (api.Count, api.Errno) {
	l, ok := readNumbers(line, 5)
	if !ok {
		return api.Count{}, api.ErrForm
	}
	c := api.Count{Id: l[0], Day: l[1], Shepherd: l[2], Number: l[3], Worn: l[4]}
	if !isCount(c) {
		return api.Count{}, api.ErrForm
	}
	return c, api.OK
}

// WriteRecount returns the line of a re-count.
func WriteRecount(x api.Recount) (string, api.Errno) {
	if !isRecount(x) {
		return "", api.ErrArg
	}
	return writeNumbers(x.Id, x.Known, x.Day, x.Shepherd, x.True, x.Number), api.OK
}

// ReadRecount returns the re-count with a line.
func ReadRecount(line string) (api.Recount, api.Errno) {
	l, ok := readNumbers(line, 6)
	if !ok {
		return api.Recount{}, api.ErrForm
	}
	x := api.Recount{Id: l[0], Known: l[1], Day: l[2], Shepherd: l[3], True: l[4], Number: l[5]}
	if !isRecount(x) {
		return api.Recount{}, api.ErrForm
	}
	return x, api.OK
}
