// Package sum is layer 2, the sum of the Internet (RFC 1071, RFC 1624): see ../../shared/doc/02-sum.md.
package sum

import (
	"goosepond/be"
)

const (
	wordBits = 16
	full     = 1<<wordBits - 1 // the greatest word, which is what bytes with a right sum add up to
)

// Fold adds what is above a number's last 16 bits to these, until nothing is.
func Fold(n int) int {
	if n < 0 {
		return 0
	}
	for n > full {
		n = n&full + n>>wordBits
	}
	return n
}

// Add is the folded sum of all words; each part begins with a word of its own.
func Add(parts ...[]byte) int {
	n := 0
	for _, part := range parts {
		for _, word := range be.Words(part) {
			n += word
		}
	}
	return Fold(n)
}

// Of is the sum that makes the parts right.
func Of(parts ...[]byte) int {
	return full - Add(parts...)
}

// Right tells whether the parts have a right sum among them.
func Right(parts ...[]byte) bool {
	return Add(parts...) == full
}

// Change is the sum that stays right when now comes into the place of old.
func Change(sum int, old, now []byte) int {
	if sum < 0 || sum > full {
		return 0
	}
	n := full - sum
	for _, word := range be.Words(old) {
		n += full - word // never negative: Fold knows nothing below 0
	}
	for _, word := range be.Words(now) {
		n += word
	}
	return full - Fold(n)
}
