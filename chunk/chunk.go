// Package chunk cuts a content into chunks where the content itself says so, so that what two contents have in common is cut alike in both.
package chunk

import (
	"iter"

	"versions/api"
)

// Ends are rare at first and frequent later, so that most chunks have little more than MidChunk bytes.
const (
	rareEnd     uint32 = 1<<8 - 1
	frequentEnd uint32 = 1<<4 - 1
)

// All goes through data chunk by chunk, from the left on. The chunks are pieces of data, not copies.
func All(data []byte) iter.Seq[[]byte] {
	return func(yield func([]byte) bool) {
		for rest := data; len(rest) > 0; {
			n := first(rest)
			// The capacity is cut too: what is appended to a chunk must not run into the next one.
			if !yield(rest[:n:n]) {
				return
			}
			rest = rest[n:]
		}
	}
}

// first is the length of the first chunk of data.
func first(data []byte) int {
	var h uint32
	for i, b := range data {
		h = h*2 + spread(b)
		if ends(i+1, h) {
			return i + 1
		}
	}
	return len(data)
}

// ends tells whether a chunk ends behind its n-th byte, where the number is h.
func ends(n int, h uint32) bool {
	switch {
	case n < api.MinChunk:
		return false
	case n < api.MidChunk:
		return h&rareEnd == 0
	case n < api.MaxChunk:
		return h&frequentEnd == 0
	}
	return true
}

// spread is G of the document. It is worked out anew each time: a table of all bytes would be longer than a table may be.
func spread(b byte) uint32 {
	x := (uint32(b) + 1) * 0x9e3779b9
	x ^= x / 65536
	x *= 0x85ebca6b
	x ^= x / 8192
	return x
}
