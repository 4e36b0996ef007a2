// Package pack lays numbers into bytes, and sums bytes up.
package pack

import "slices"

// Put fills b with a number, its lowest byte first.
func Put(b []byte, n uint64) {
	for i := range b {
		b[i] = byte(n)
		n >>= 8
	}
}

// Append appends a number of so many bytes.
func Append(b []byte, n uint64, width int) []byte {
	for range width {
		b = append(b, byte(n))
		n >>= 8
	}
	return b
}

// Number is the number that b is filled with.
func Number(b []byte) uint64 {
	var n uint64
	for _, x := range slices.Backward(b) {
		n = n<<8 | uint64(x)
	}
	return n
}

// SumSize is how many bytes a sum has.
const SumSize = 4

// Sum is a sum of bytes. Other bytes may have the same one; but bytes of which just one is another never have.
type Sum [SumSize]byte

// SumOf sums data up. It begins with a number, so that the same bytes can be told apart by where they are.
func SumOf(begin uint32, data []byte) Sum {
	const basis, prime = 2166136261, 16777619
	h := (basis ^ begin) * prime
	for _, b := range data {
		h = (h ^ uint32(b)) * prime
	}
	var s Sum
	Put(s[:], uint64(h))
	return s
}
