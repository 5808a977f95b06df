package topo

import (
	"iter"
	"math/bits"

	"leafmesh/api"
)

// wordBits is the number of bits of a word of a bitset.
const wordBits = 64

// bitset is a set of nodes or of links. It has room for the links, of which there can be more; its methods take no number that is out of its range.
type bitset [api.MaxLinks / wordBits]uint64

// below returns the set of the numbers from 0 to n - 1.
func below(n int) bitset {
	var s bitset
	for i := range n {
		s.set(i, true)
	}
	return s
}

// set puts a number into the set or takes it out.
func (s *bitset) set(i int, in bool) {
	word, bit := i/wordBits, uint64(1)<<(i%wordBits)
	if in {
		s[word] |= bit
	} else {
		s[word] &^= bit
	}
}

// has reports whether a number is in the set.
func (s bitset) has(i int) bool {
	return s[i/wordBits]>>(i%wordBits)&1 != 0
}

// all visits the numbers in the set, in ascending order.
func (s bitset) all() iter.Seq[int] {
	return func(yield func(int) bool) {
		for at, word := range s {
			for ; word != 0; word &= word - 1 {
				if !yield(at*wordBits + bits.TrailingZeros64(word)) {
					return
				}
			}
		}
	}
}
