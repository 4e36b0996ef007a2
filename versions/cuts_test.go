package versions_test

import (
	"bytes"
	"slices"
	"strings"
	"testing"

	"versions/api"
	"versions/versions"
)

// Endings behind a run of the letter a: just so many of the lowest bits of h are 0 behind each of them, and fewer than 4 behind every byte around.
const (
	ends3 = "bbs"
	ends4 = "bet"
	ends7 = "cdr"
	ends8 = "wet"
)

// ending makes n bytes, the last ones of which are the ending.
func ending(n int, end string) string {
	return strings.Repeat("a", n-len(end)) + end
}

// steps makes n bytes from 0 on, each so much more than the one ahead.
func steps(n, by int) []byte {
	data := make([]byte, n)
	for i := range data {
		data[i] = byte(i * by)
	}
	return data
}

// noise makes n bytes that look like chance, and are the same each time.
func noise(seed uint32, n int) []byte {
	data := make([]byte, n)
	for i := range data {
		seed = seed*1664525 + 1013904223
		data[i] = byte(seed >> 24)
	}
	return data
}

func expectCuts(t *testing.T, what string, data []byte, want ...int) {
	t.Helper()
	if got := versions.Cuts(data); !slices.Equal(got, want) {
		t.Errorf("%s: %v, want %v", what, got, want)
	}
}

// P3: the document's table.
func TestCutsExamples(t *testing.T) {
	expectCuts(t, "nil", nil)
	expectCuts(t, "no bytes", []byte{})
	expectCuts(t, "1000 times a", bytes.Repeat([]byte("a"), 1000), 256, 256, 256, 232)
	expectCuts(t, "300 times ab", bytes.Repeat([]byte("ab"), 300), 256, 256, 88)
	expectCuts(t, "600 times 0", make([]byte, 600), 256, 256, 88)
	expectCuts(t, "by 7", steps(300, 7), 93, 87, 69, 51)
}

// P3: contents whose chunks were worked out by another program, written from the document's words.
func TestCutsOfAllBytes(t *testing.T) {
	expectCuts(t, "rising", steps(1024, 1), 75, 77, 75, 67, 114, 75, 67, 114, 75, 67, 114, 75, 29)
	expectCuts(t, "falling", steps(1024, -1), 34, 67, 29, 89, 71, 67, 29, 89, 71, 67, 29, 89, 71, 67, 29, 89, 37)
	expectCuts(t, "noise", noise(5, 700), 81, 69, 73, 94, 69, 91, 73, 81, 69)
	expectCuts(t, "255", bytes.Repeat([]byte{255}, 600), 256, 256, 88)
}

func TestCutsOfOneByte(t *testing.T) {
	for b := range 256 {
		expectCuts(t, "one byte", []byte{byte(b)}, 1)
	}
}

// P3: whether a chunk ends behind its n-th byte, at MinChunk, MidChunk and MaxChunk and beside them, with more data behind it.
func TestCutsAtTheBounds(t *testing.T) {
	const behind = 10
	for _, c := range []struct {
		n   int
		end string
		cut bool
	}{
		{api.MinChunk - 1, ends8, false},
		{api.MinChunk, ends8, true},
		{api.MinChunk, ends7, false},
		{api.MinChunk, ends4, false},
		{api.MinChunk + 1, ends8, true},
		{api.MidChunk - 1, ends8, true},
		{api.MidChunk - 1, ends7, false},
		{api.MidChunk - 1, ends4, false},
		{api.MidChunk, ends8, true},
		{api.MidChunk, ends7, true},
		{api.MidChunk, ends4, true},
		{api.MidChunk, ends3, false},
		{api.MidChunk + 1, ends4, true},
		{api.MaxChunk - 1, ends4, true},
		{api.MaxChunk - 11, ends3, false},
		{api.MaxChunk, ends8, true},
		{api.MaxChunk, ends3, true},
	} {
		data := []byte(ending(c.n, c.end) + strings.Repeat("a", behind))
		want := []int{c.n + behind}
		if c.cut {
			want = []int{c.n, behind}
		}
		expectCuts(t, string(data), data, want...)
	}
}

// P3: the last byte of data ends a chunk wherever it stands, and no chunk is empty behind it.
func TestCutsAtTheLastByte(t *testing.T) {
	for _, n := range []int{1, 15, 16, 17, 63, 64, 65, 255, 256} {
		expectCuts(t, "a run", bytes.Repeat([]byte("a"), n), n)
	}
	expectCuts(t, "one above the greatest", bytes.Repeat([]byte("a"), 257), 256, 1)
	expectCuts(t, "a last byte that would end it anyway", []byte(ending(16, ends8)), 16)
	expectCuts(t, "and later", []byte(ending(64, ends4)), 64)
	expectCuts(t, "below the least", []byte(ending(15, ends8)), 15)
}

// P3: the bytes are counted anew from each chunk's beginning.
func TestCutsBeginAnew(t *testing.T) {
	data := ending(16, ends8) + ending(16, ends8) + ending(64, ends4) + ending(63, ends8) + strings.Repeat("a", 256) + ending(15, ends8) + "a"
	expectCuts(t, "chunk by chunk", []byte(data), 16, 16, 64, 63, 256, 16)
}

// P3: what two contents have in common has chunks in common, behind something else ahead of it.
func TestCutsMeetAgain(t *testing.T) {
	data := noise(2, 800)
	plain, moved := versions.Cuts(data), versions.Cuts(append([]byte("xyz"), data...))
	if !slices.Equal(plain[1:], moved[1:]) || moved[0] != plain[0]+3 {
		t.Errorf("%v, and %v behind xyz", plain, moved)
	}
}

// P2: neither data nor the room behind it is written into.
func TestCutsLeaveDataAlone(t *testing.T) {
	room := noise(3, 2000)
	before := bytes.Clone(room)
	for _, n := range []int{0, 1, 16, 64, 256, 1000, 2000} {
		versions.Cuts(room[:n])
		if !bytes.Equal(room, before) {
			t.Fatalf("Cuts of %d bytes wrote into what it was handed", n)
		}
	}
}

// P2: an answer is fresh, and does not hang on what was behind data.
func TestCutsAreFresh(t *testing.T) {
	data := noise(4, 1000)
	one := versions.Cuts(data)
	want := slices.Clone(one)
	two := versions.Cuts(data)
	clear(one[:cap(one)])
	clear(data)
	if !slices.Equal(two, want) {
		t.Errorf("an answer changed from %v to %v", want, two)
	}
	data = noise(4, 1000)
	if got, alone := versions.Cuts(data[:500]), versions.Cuts(bytes.Clone(data[:500])); !slices.Equal(got, alone) {
		t.Errorf("with room behind it %v, without %v", got, alone)
	}
}

// slowCuts says the document's words of P3 again, as plainly as can be.
func slowCuts(data []byte) []int {
	var lengths []int
	i, h := 0, uint64(0)
	for k, b := range data {
		x := (uint64(b) + 1) * 0x9e3779b9 % (1 << 32)
		x ^= x / 65536
		x = x * 0x85ebca6b % (1 << 32)
		x ^= x / 8192
		h = (h*2 + x) % (1 << 32)
		i++
		early := i >= 16 && i < 64 && h%256 == 0
		late := i >= 64 && h%16 == 0
		if k == len(data)-1 || i == 256 || early || late {
			lengths = append(lengths, i)
			i, h = 0, 0
		}
	}
	return lengths
}

// P1, P3: contents of all lengths up to above MaxContent, and one that is far longer.
func TestCutsOfNoise(t *testing.T) {
	for n := 0; n < api.MaxContent+100; n += 37 {
		data := noise(uint32(n), n)
		expectCuts(t, "noise", data, slowCuts(data)...)
	}
	long := noise(1, 1<<20)
	expectCuts(t, "long noise", long, slowCuts(long)...)
}

// P1, P3: any bytes.
func FuzzCuts(f *testing.F) {
	f.Add([]byte{})
	f.Add([]byte(ending(16, ends8)))
	f.Add(noise(6, 600))
	f.Fuzz(func(t *testing.T, data []byte) {
		expectCuts(t, "any bytes", data, slowCuts(data)...)
	})
}
