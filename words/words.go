// Package words is layer 1, rows of bits: see shared/doc/01-words.md.
package words

import (
	"math/bits"
	"slices"

	"bucketline/api"
)

const wordBits = 64

// Size tells how many words a row of k blocks has; 0 says that k is out of bounds.
func Size(k int) int {
	if k < 1 || k > api.MaxK {
		return 0
	}
	return (k + wordBits - 1) / wordBits
}

// Valid tells whether v is a row of k blocks: not a word too many or too few, no bit of a block that is not there.
func Valid(k int, v []uint64) bool {
	// Size is 0 for a k out of bounds, so an empty v must not pass by having as many words.
	if len(v) == 0 || len(v) != Size(k) {
		return false
	}
	return Count(from(v, k)) == 0
}

// from gives v with the bits below k cleared; k is 0 to the number of v's bits.
func from(v []uint64, k int) []uint64 {
	rest := slices.Clone(v)
	whole := k / wordBits
	clear(rest[:whole])
	// Where k is a multiple of the word's size, it may lie just behind the last word.
	if whole < len(rest) {
		rest[whole] &= ^uint64(0) << uint(k%wordBits)
	}
	return rest
}

// Get tells bit i of v; bits beyond its words, and below 0, are not set.
func Get(v []uint64, i int) bool {
	return within(v, i) && v[i/wordBits]&mask(i) != 0
}

// Set gives a copy of v with bit i as on says; a bit beyond v's words is not set, for a row never grows by it.
func Set(v []uint64, i int, on bool) []uint64 {
	row := slices.Clone(v)
	if !within(row, i) {
		return row
	}
	if on {
		row[i/wordBits] |= mask(i)
	} else {
		row[i/wordBits] &^= mask(i)
	}
	return row
}

// within divides i instead of multiplying the length, so that no i can overflow.
func within(v []uint64, i int) bool {
	return i >= 0 && i/wordBits < len(v)
}

func mask(i int) uint64 {
	return 1 << uint(i%wordBits)
}

// Xor gives a row as long as the longer one; words that the shorter one lacks are 0.
func Xor(a, b []uint64) []uint64 {
	if len(a) < len(b) {
		a, b = b, a
	}
	row := slices.Clone(a)
	for i, w := range b {
		row[i] ^= w
	}
	return row
}

// Count tells v's degree.
func Count(v []uint64) int {
	n := 0
	for _, w := range v {
		n += bits.OnesCount64(w)
	}
	return n
}

// First tells the lowest bit that is set; -1, if none is.
func First(v []uint64) int {
	for i, w := range v {
		if w != 0 {
			return i*wordBits + bits.TrailingZeros64(w)
		}
	}
	return -1
}

// Same tells whether all bits are alike; words of 0 at the end make no difference.
func Same(a, b []uint64) bool {
	return First(Xor(a, b)) < 0
}

// Unit gives the row of block i alone, of k blocks; nothing, if there is no such block.
func Unit(k, i int) []uint64 {
	if i < 0 || i >= k {
		return nil
	}
	// Of a k out of bounds the row has no words, and Set adds none.
	return Set(make([]uint64, Size(k)), i, true)
}
