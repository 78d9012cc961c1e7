package mark

import (
	"cmp"
	"iter"
	"math/bits"
	"slices"
)

// set is some owners: bit n stands for the owner n.
type set uint64

// just returns the set of one owner.
func just(owner int) set { return 1 << owner }

// has tells whether an owner is in a set; any other number is not.
func (s set) has(owner int) bool { return isOwner(owner) && s&just(owner) != 0 }

func (s set) size() int { return bits.OnesCount64(uint64(s)) }

// each yields the owners, ascending.
func (s set) each() iter.Seq[int] {
	return func(yield func(int) bool) {
		for rest := s; rest != 0; rest &= rest - 1 {
			if !yield(bits.TrailingZeros64(uint64(rest))) {
				return
			}
		}
	}
}

// list returns the owners, ascending.
func (s set) list() []int { return slices.Collect(s.each()) }

// parts yields all sets of some of the owners, at least one.
func (s set) parts() iter.Seq[set] {
	return func(yield func(set) bool) {
		// Counting down in the bits of s alone goes through all of its parts.
		for part := s; part != 0; part = (part - 1) & s {
			if !yield(part) {
				return
			}
		}
	}
}

// compareLists compares lists by their length, then element by element.
func compareLists[T cmp.Ordered](a, b []T) int {
	return cmp.Or(cmp.Compare(len(a), len(b)), slices.Compare(a, b))
}
