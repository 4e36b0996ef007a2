// Package spare keeps buffers that are not in use, so that they need not be made anew.
package spare

// Buffers are spare buffers, all of them cleared.
type Buffers chan []byte

// New makes room for so many buffers.
func New(n int) Buffers { return make(Buffers, n) }

// Take takes a buffer without bytes: a spare one, if there is one there.
func (s Buffers) Take() []byte {
	select {
	case b := <-s:
		return b[:0]
	default:
		return nil
	}
}

// Give gives a buffer back, if there is room. It is cleared, as nothing of what a caller handed in may be kept.
func (s Buffers) Give(b []byte) {
	clear(b[:cap(b)])
	select {
	case s <- b:
	default:
	}
}
