package spare

import (
	"slices"
	"testing"
)

func TestTakeOfNone(t *testing.T) {
	for _, s := range []Buffers{New(0), New(2), nil} {
		if b := s.Take(); len(b) != 0 {
			t.Errorf("a buffer with bytes: %q", b)
		}
	}
}

// P2: what was in a buffer is not kept.
func TestGivenBackIsCleared(t *testing.T) {
	s := New(1)
	mine := append(make([]byte, 0, 64), "secret"...)
	s.Give(mine[:2])
	again := s.Take()
	if len(again) != 0 || cap(again) != 64 {
		t.Fatalf("%d bytes with room for %d, want 0 with room for 64", len(again), cap(again))
	}
	if again = again[:64]; !slices.Equal(again, make([]byte, 64)) {
		t.Errorf("what was in it is there yet: %q", again)
	}
}

// No more than there is room for is kept, and Give does not wait.
func TestGiveWithoutRoom(t *testing.T) {
	s := New(2)
	for n := range 5 {
		s.Give(make([]byte, n, n+1))
	}
	for _, want := range []int{1, 2, 0, 0} {
		if b := s.Take(); cap(b) != want {
			t.Errorf("a buffer with room for %d, want %d", cap(b), want)
		}
	}
}
