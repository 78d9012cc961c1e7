package rule

import (
	"strconv"
	"strings"

	"couchant/api"
)

// maxDigits is how many digits a number in a source can have.
const maxDigits = 9

// wordsOf returns a function that returns the next word of a line at each call, and an empty one behind the last; it gives up where no word can begin.
func wordsOf(line string) func() string {
	return func() string {
		line = strings.TrimLeft(line, " ")
		word := line[:sizeOf(line)]
		line = line[len(word):]
		return word
	}
}

// sizeOf returns how many bytes the word has with which a text begins.
func sizeOf(text string) int {
	switch {
	case text == "":
		return 0
	case isLetter(text[0]):
		return run(text, goesOn)
	case isDigit(text[0]):
		// What stands beside digits without a blank, and is no sign, is part of the word, which is then no number.
		return run(text, func(b byte) bool { return isDigit(b) || isLetter(b) || b == '/' })
	case strings.HasPrefix(text, "<="), strings.HasPrefix(text, ">="):
		return 2
	}
	need(strings.IndexByte("+-*<=>(),", text[0]) >= 0, api.ErrForm)
	return 1
}

// run returns how many bytes of a kind a text begins with.
func run(text string, is func(byte) bool) int {
	size := 0
	for size < len(text) && is(text[size]) {
		size++
	}
	return size
}

// literal returns the number of a word, which has to be one.
func literal(word string) api.Frac {
	num, den, is := strings.Cut(word, "/")
	x := whole(digits(num))
	if is {
		x.Den = digits(den)
	}
	need(isValid(x), api.ErrForm)
	return x
}

// digits returns the number that some digits are, which have to be one.
func digits(s string) int {
	n, _ := strconv.Atoi(s)
	// Writing it again finds leading zeros, and whatever is no number.
	need(len(s) <= maxDigits && n >= 0 && strconv.Itoa(n) == s, api.ErrForm)
	return n
}
