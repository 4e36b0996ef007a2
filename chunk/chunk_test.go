package chunk

import (
	"bytes"
	"testing"
)

// P3: G(b), worked out by another program from the document's words. At 255, b + 1 must not wrap round in 8 bits.
func TestSpread(t *testing.T) {
	for _, c := range []struct {
		b    byte
		want uint32
	}{
		{0, 0x93694f34}, {1, 0x5c724b31}, {2, 0xaff78678}, {97, 0xd7614945},
		{127, 0x9d347790}, {128, 0xa0c3fa98}, {254, 0xa5777d85}, {255, 0xc04b04fb},
	} {
		if got := spread(c.b); got != c.want {
			t.Errorf("spread(%d): %#x, want %#x", c.b, got, c.want)
		}
	}
}

// P3: which of the lowest bits count, at the bounds and beside them.
func TestEnds(t *testing.T) {
	const all8, low7, low4, low3 = 1 << 8, 1 << 7, 1 << 4, 1 << 3
	for _, c := range []struct {
		n    int
		h    uint32
		want bool
	}{
		{1, 0, false}, {15, 0, false},
		{16, 0, true}, {16, all8, true}, {16, low7, false}, {16, low4, false},
		{63, all8, true}, {63, low7, false}, {63, low4, false},
		{64, all8, true}, {64, low7, true}, {64, low4, true}, {64, low3, false},
		{255, low4, true}, {255, low3, false},
		{256, low3, true}, {256, 0xffffffff, true},
	} {
		if got := ends(c.n, c.h); got != c.want {
			t.Errorf("ends(%d, %#x): %v, want %v", c.n, c.h, got, c.want)
		}
	}
}

// P3: the chunks, one behind the other, are the data.
func TestAllIsWhole(t *testing.T) {
	data := bytes.Repeat([]byte("the same and the other, "), 60)
	var joined []byte
	for c := range All(data) {
		joined = append(joined, c...)
	}
	if !bytes.Equal(joined, data) {
		t.Errorf("the chunks together are not the data: %q", joined)
	}
}

func TestAllOfNothing(t *testing.T) {
	for _, data := range [][]byte{nil, {}} {
		for c := range All(data) {
			t.Errorf("a chunk of no data: %q", c)
		}
	}
}

// One walk must not use up what the next one goes through, nor must one that is broken off.
func TestAllCanBeWalkedAgain(t *testing.T) {
	walk := All(bytes.Repeat([]byte("a"), 600))
	for range walk {
		break
	}
	for range 2 {
		n := 0
		for c := range walk {
			n += len(c)
		}
		if n != 600 {
			t.Fatalf("a walk over %d bytes, want 600", n)
		}
	}
}

// P2: appending to a chunk must not write into the data behind it.
func TestChunkHasNoSpareRoom(t *testing.T) {
	data := bytes.Repeat([]byte("a"), 600)
	for c := range All(data) {
		_ = append(c, 'x')
	}
	if !bytes.Equal(data, bytes.Repeat([]byte("a"), 600)) {
		t.Error("the data was written into")
	}
}
