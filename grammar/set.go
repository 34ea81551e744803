package grammar

import (
	"iter"
	"math/bits"
)

// set is a set of numbers, with a bit for each. Sets that are put together have the same length.
type set []uint64

// wordBits is how many numbers a word of a set tells of.
const wordBits = 64

// newSet returns a set for the numbers below a bound.
func newSet(bound int) set { return make(set, (bound+wordBits-1)/wordBits) }

func (s set) has(i int) bool { return s[i/wordBits]>>(i%wordBits)&1 == 1 }

func (s set) add(i int) { s[i/wordBits] |= 1 << (i % wordBits) }

// addAll adds the numbers of another set.
func (s set) addAll(t set) {
	for i, w := range t {
		s[i] |= w
	}
}

// all yields the numbers of a set, ascending.
func (s set) all() iter.Seq[int] {
	return func(yield func(int) bool) {
		for i, w := range s {
			for ; w != 0; w &= w - 1 {
				if !yield(i*wordBits + bits.TrailingZeros64(w)) {
					return
				}
			}
		}
	}
}

// combined returns the set of which each word is made of those of two sets.
func combined(s, t set, word func(v, w uint64) uint64) set {
	made := make(set, len(s))
	for i, v := range s {
		made[i] = word(v, t[i])
	}
	return made
}
