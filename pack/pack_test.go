package pack

import (
	"bytes"
	"testing"
)

func TestNumbers(t *testing.T) {
	for _, c := range []struct {
		n     uint64
		width int
		want  []byte
	}{
		{0, 1, []byte{0}},
		{255, 1, []byte{255}},
		{256, 1, []byte{0}},
		{258, 2, []byte{2, 1}},
		{0x01020304, 4, []byte{4, 3, 2, 1}},
		{1<<64 - 1, 8, bytes.Repeat([]byte{255}, 8)},
		{7, 0, nil},
	} {
		filled := make([]byte, c.width)
		Put(filled, c.n)
		if !bytes.Equal(filled, c.want) {
			t.Errorf("Put of %d in %d bytes: %v, want %v", c.n, c.width, filled, c.want)
		}
		fits := c.n
		if c.width < 8 {
			fits %= 1 << (8 * c.width)
		}
		if got := Number(c.want); got != fits {
			t.Errorf("Number of %v: %d, want %d", c.want, got, fits)
		}
	}
}

func TestShortNumbers(t *testing.T) {
	for _, c := range []struct {
		n    uint64
		want []byte
	}{
		{0, []byte{0}},
		{1, []byte{1}},
		{127, []byte{127}},
		{128, []byte{128, 1}},
		{300, []byte{172, 2}},
		{1<<14 - 1, []byte{255, 127}},
		{1 << 14, []byte{128, 128, 1}},
		{1<<21 - 1, []byte{255, 255, 127}},
		{1<<31 - 1, []byte{255, 255, 255, 255, 7}},
		{1<<35 - 1, []byte{255, 255, 255, 255, 127}},
		{1 << 35, []byte{128, 128, 128, 128, 128, 1}},
		{1<<56 - 1, []byte{255, 255, 255, 255, 255, 255, 255, 127}},
		{1 << 56, []byte{128, 128, 128, 128, 128, 128, 128, 128, 1}},
		{1<<63 - 1, []byte{255, 255, 255, 255, 255, 255, 255, 255, 127}},
	} {
		if got := AppendShort([]byte("ahead"), c.n); !bytes.Equal(got, append([]byte("ahead"), c.want...)) {
			t.Errorf("AppendShort of %d: %v, want %v behind ahead", c.n, got, c.want)
		}
		if got := ShortSize(c.n); got != len(c.want) {
			t.Errorf("ShortSize of %d: %d, want %d", c.n, got, len(c.want))
		}
		for _, behind := range [][]byte{nil, {0}, {1, 200}} {
			if n, size := Short(append(bytes.Clone(c.want), behind...)); n != c.n || size != len(c.want) {
				t.Errorf("Short of %v: %d, %d bytes, want %d", c.want, n, size, c.n)
			}
		}
		if n, size := Short(c.want[:len(c.want)-1]); n != 0 || size != 0 {
			t.Errorf("Short of %v, but for the last byte: %d, %d bytes", c.want, n, size)
		}
	}
}

// What is not as short as can be is none: so a number tells how many bytes it has.
func TestShortOfWhatIsNone(t *testing.T) {
	for _, b := range [][]byte{
		nil, {}, {128}, {128, 0}, {128, 0, 1}, {255, 0}, {129, 128, 0}, {128, 128, 128, 128, 0}, {255, 255, 255, 255, 255, 255, 255, 255, 0},
		{128, 128, 128, 128, 128, 128, 128, 128, 128, 1}, {255, 255, 255, 255, 255, 255, 255, 255, 255, 1}, {255, 255, 255, 255, 255, 255, 255, 255, 255, 127}, bytes.Repeat([]byte{255}, 99),
	} {
		if n, size := Short(b); n != 0 || size != 0 {
			t.Errorf("Short of %v: %d, %d bytes", b, n, size)
		}
	}
}

// P14 leans on it: no change of one byte goes unseen.
func TestSumTellsOneByte(t *testing.T) {
	data := []byte("some bytes, and a few more")
	want := SumOf(3, data)
	for i := range data {
		for x := 1; x < 256; x++ {
			data[i] ^= byte(x)
			if SumOf(3, data) == want {
				t.Fatalf("byte %d changed by %d: the same sum", i, x)
			}
			data[i] ^= byte(x)
		}
	}
	if SumOf(3, data) != want {
		t.Error("the same bytes have another sum")
	}
}

func TestSumTellsThePlace(t *testing.T) {
	seen := map[Sum]uint32{}
	for begin := range uint32(5000) {
		sum := SumOf(begin, []byte("the same"))
		if other, ok := seen[sum]; ok {
			t.Fatalf("%d and %d have the same sum", begin, other)
		}
		seen[sum] = begin
	}
}
