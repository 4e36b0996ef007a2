package pack

import (
	"bytes"
	"testing"
)

func TestNumbers(t *testing.T) {
	for _, c := range []struct {
		n     uint64
		width int
		want  []byte
	}{
		{0, 1, []byte{0}},
		{255, 1, []byte{255}},
		{256, 1, []byte{0}},
		{258, 2, []byte{2, 1}},
		{0x01020304, 4, []byte{4, 3, 2, 1}},
		{1<<64 - 1, 8, bytes.Repeat([]byte{255}, 8)},
		{7, 0, nil},
	} {
		appended := Append([]byte("ahead"), c.n, c.width)
		if !bytes.Equal(appended, append([]byte("ahead"), c.want...)) {
			t.Errorf("Append of %d in %d bytes: %v, want %v behind ahead", c.n, c.width, appended, c.want)
		}
		filled := make([]byte, c.width)
		Put(filled, c.n)
		if !bytes.Equal(filled, c.want) {
			t.Errorf("Put of %d in %d bytes: %v, want %v", c.n, c.width, filled, c.want)
		}
		fits := c.n
		if c.width < 8 {
			fits %= 1 << (8 * c.width)
		}
		if got := Number(c.want); got != fits {
			t.Errorf("Number of %v: %d, want %d", c.want, got, fits)
		}
	}
}

// P14 leans on it: no change of one byte goes unseen.
func TestSumTellsOneByte(t *testing.T) {
	data := []byte("some bytes, and a few more")
	want := SumOf(3, data)
	for i := range data {
		for x := 1; x < 256; x++ {
			data[i] ^= byte(x)
			if SumOf(3, data) == want {
				t.Fatalf("byte %d changed by %d: the same sum", i, x)
			}
			data[i] ^= byte(x)
		}
	}
	if SumOf(3, data) != want {
		t.Error("the same bytes have another sum")
	}
}

func TestSumTellsThePlace(t *testing.T) {
	seen := map[Sum]uint32{}
	for begin := range uint32(5000) {
		sum := SumOf(begin, []byte("the same"))
		if other, ok := seen[sum]; ok {
			t.Fatalf("%d and %d have the same sum", begin, other)
		}
		seen[sum] = begin
	}
}
