// Package be is layer 1, numbers as bytes, the highest first: see ../../shared/doc/01-be.md.
package be

import (
	"iter"

	"goosepond/api"
)

const (
	maxSize  = 4 // the most bytes that a number has
	wordSize = 2 // the bytes of a word of the Internet's sum
)

// Get is the number that the size bytes from at on are.
func Get(b []byte, at, size int) (int, api.Errno) {
	if !isSize(size) || at < 0 {
		return 0, api.ErrArg
	}
	if !holds(b, at, size) {
		return 0, api.ErrShort
	}
	return number(cut(b, at, size)), api.OK
}

// Put is b with n's bytes behind, or b alone, if n does not fit.
func Put(b []byte, n, size int) []byte {
	if !Fits(n, size) {
		return roomy(b, len(b))
	}
	out := roomy(b, len(b)+size)
	write(cut(out, len(b), size), n)
	return out
}

// Set is b with n's bytes in the place of those from at on.
func Set(b []byte, at, n, size int) ([]byte, api.Errno) {
	if !Fits(n, size) || at < 0 {
		return nil, api.ErrArg
	}
	if !holds(b, at, size) {
		return nil, api.ErrShort
	}
	out := roomy(b, len(b))
	write(cut(out, at, size), n)
	return out, api.OK
}

// Fits tells whether size bytes can say n.
func Fits(n, size int) bool {
	return isSize(size) && n >= 0 && n>>(8*size) == 0
}

// Words tells where each pair of b's bytes begins, and which number it is.
func Words(b []byte) iter.Seq2[int, int] {
	// The copy is made ahead of the first question: b stays its owner's, who may change it meanwhile.
	own := roomy(b, len(b)+len(b)%wordSize)
	return func(yield func(int, int) bool) {
		for at := 0; at < len(own); at += wordSize {
			if !yield(at, number(cut(own, at, wordSize))) {
				return
			}
		}
	}
}

func isSize(size int) bool {
	return 1 <= size && size <= maxSize
}

// holds asks by a difference, since at+size may be more than an int says.
func holds(b []byte, at, size int) bool {
	return at <= len(b)-size
}

// cut leaves no room behind, so that nothing that is put behind the piece comes into b.
func cut(b []byte, at, size int) []byte {
	return b[at : at+size : at+size]
}

// roomy is new memory, b ahead and 0 behind: an answer shares nothing with what was handed in.
func roomy(b []byte, size int) []byte {
	out := make([]byte, size)
	copy(out, b)
	return out
}

func number(b []byte) int {
	n := 0
	for _, x := range b {
		n = n<<8 | int(x)
	}
	return n
}

func write(field []byte, n int) {
	for i, x := range digits(n, len(field)) {
		field[i] = x
	}
}

// digits are the places and the bytes of n, the highest first.
func digits(n, size int) iter.Seq2[int, byte] {
	return func(yield func(int, byte) bool) {
		for i := range size {
			if !yield(i, byte(n>>(8*(size-1-i)))) {
				return
			}
		}
	}
}
