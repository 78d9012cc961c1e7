package manor

import (
	"strconv"
	"strings"

	"couchant/api"
)

// maxDigits is how many digits a number has at most.
const maxDigits = 9

// numberOf returns what a word says, if it is a number.
func numberOf(word string) (int, bool) {
	n, wrong := strconv.Atoi(word)
	// Writing it again shows signs and zeros before it.
	return n, wrong == nil && n >= 0 && len(word) <= maxDigits && strconv.Itoa(n) == word
}

// number returns what a word says, and gives up if it is no number.
func number(word string) int {
	n, is := numberOf(word)
	need(is, api.ErrForm)
	return n
}

// numbers returns what words say that are all numbers.
func numbers(words ...string) []int {
	var l []int
	for _, word := range words {
		l = append(l, number(word))
	}
	return l
}

// wordsOf returns the words of a text, of which none is empty.
func wordsOf(text string) []string {
	need(!strings.Contains(text, "\n"), api.ErrForm)
	l := strings.Split(text, " ")
	for _, word := range l {
		need(word != "", api.ErrForm)
	}
	return l
}

// exactly returns the words of a text that has so many.
func exactly(n int, text string) []string {
	l := wordsOf(text)
	need(len(l) == n, api.ErrForm)
	return l
}

// behind returns a text and some numbers, with a blank before each.
func behind(text string, l ...int) string {
	var b strings.Builder
	b.WriteString(text)
	for _, n := range l {
		b.WriteByte(' ')
		b.WriteString(strconv.Itoa(n))
	}
	return b.String()
}

// without returns what is behind the first words of a line.
func without(words int, line string) string {
	for range words {
		_, line, _ = strings.Cut(line, " ")
	}
	return line
}
