// Package word is layer 1: see shared/doc/01-word.md.
package word

import "math/bits"

// Max is the greatest number.
const Max = 1<<64 - 1

// width is how many bytes the greatest number has.
const width = 8

// Put are a number's bytes; Get is the number of bytes.
func Put(n uint64, size int) string {
	var b [width]byte
	for i := range width {
		b[i] = byte(n)
		n >>= 8
	}
	size = within(size)
	// The cap ends where the size does, so that the bytes behind are out of reach.
	return string(b[:size:size])
}

func Get(s string) uint64 {
	var b [width]byte
	copy(b[:], s)
	n := uint64(0)
	// Bytes that s has not are zeros, and add nothing.
	for i := range width {
		n |= uint64(b[i]) << (8 * i)
	}
	return n
}

func within(size int) int {
	if size < 0 {
		return 0
	}
	if size > width {
		return width
	}
	return size
}

// Add and Mul stay at the greatest number; Less stays at 0.
func Add(a, b uint64) (uint64, bool) {
	sum, over := bits.Add64(a, b, 0)
	if over != 0 {
		return Max, true
	}
	return sum, false
}

func Mul(a, b uint64) (uint64, bool) {
	over, product := bits.Mul64(a, b)
	if over != 0 {
		return Max, true
	}
	return product, false
}

func Less(a, b uint64) uint64 {
	if b > a {
		return 0
	}
	return a - b
}
