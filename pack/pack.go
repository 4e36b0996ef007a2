// Package pack lays numbers into bytes, and sums bytes up.
package pack

import "slices"

// Put fills b with a number, its lowest byte first.
func Put(b []byte, n uint64) {
	for i := range b {
		b[i] = byte(n)
		n >>= 8
	}
}

// Number is the number that b is filled with.
func Number(b []byte) uint64 {
	var n uint64
	for _, x := range slices.Backward(b) {
		n = n<<8 | uint64(x)
	}
	return n
}

// A short number has 7 bits in each byte, the lowest ones first; all its bytes but the last one have the mark that there are more.
const (
	shortBits = 7
	more      = 1 << shortBits
	maxShort  = 9 // bytes: so each int from 0 on has room
)

// AppendShort appends a number below 1<<63, in as few bytes as it needs.
func AppendShort(b []byte, n uint64) []byte {
	for ; n >= more; n >>= shortBits {
		b = append(b, byte(n)|more)
	}
	return append(b, byte(n))
}

// ShortSize is how many bytes a number has, if it is appended so.
func ShortSize(n uint64) int {
	size := 1
	for ; n >= more; n >>= shortBits {
		size++
	}
	return size
}

// Short is the number that b begins with, and how many bytes it has there: 0, if there is none that AppendShort appends.
func Short(b []byte) (uint64, int) {
	var n uint64
	for i, x := range b[:min(len(b), maxShort)] {
		n |= uint64(x&^more) << (i * shortBits)
		if x >= more {
			continue
		}
		if ShortSize(n) != i+1 {
			break
		}
		return n, i + 1
	}
	return 0, 0
}

// SumSize is how many bytes a sum has.
const SumSize = 4

// Sum is a sum of bytes. Other bytes may have the same one; but bytes of which just one is another never have.
type Sum [SumSize]byte

// SumOf sums data up. It begins with a number, so that the same bytes can be told apart by where they are.
func SumOf(begin uint32, data []byte) Sum {
	const basis, prime = 2166136261, 16777619
	h := (basis ^ begin) * prime
	for _, b := range data {
		h = (h ^ uint32(b)) * prime
	}
	var s Sum
	Put(s[:], uint64(h))
	return s
}
