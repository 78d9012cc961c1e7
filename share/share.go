// Package share is layer 1: exact fractions, the dated table of equivalents, what beasts take up, and the dividing of stints (shared/doc/01-share.md).
package share

import "couchant/api"

// maxTerm is the greatest number that Norm takes.
const maxTerm = 1000000000000000

// maxTerms is how many fractions Sum takes.
const maxTerms = 1000

// within tells whether a number is from low to high.
func within(n, low, high int) bool { return low <= n && n <= high }

// valid tells whether a fraction is one that the layer works with.
func valid(a api.Frac) bool {
	return within(a.Den, 1, api.MaxDen) && within(a.Num, -api.MaxNum, api.MaxNum) && divisor(a.Num, a.Den) == 1
}

// isName tells whether a string is a name.
func isName(s string) bool {
	if !within(len(s), 1, api.MaxName) || !isLetter(s[0]) {
		return false
	}
	for i := range len(s) {
		if !isLetter(s[i]) && !within(int(s[i]), '0', '9') && s[i] != '-' {
			return false
		}
	}
	return true
}

func isLetter(b byte) bool { return 'a' <= b && b <= 'z' }
