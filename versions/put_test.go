package versions_test

import (
	"bytes"
	"slices"
	"strings"
	"testing"

	"versions/api"
	"versions/catalog"
	"versions/versions"
)

// P5: which texts are paths (all of it in package catalog).
func TestPutByPath(t *testing.T) {
	a := fresh(t)
	for _, path := range []string{"", "/", "a/", "/a", "a//b", "A", "a b", strings.Repeat("a", 21), "\xff", "é"} {
		expectNoPut(t, a, path, []byte("x"), api.ErrPath)
	}
	expectList(t, a, "")
	for _, path := range []string{"a", "-", "..", "a/b", strings.Repeat("a", 20), "0/1/2/3/4/5/6/7/8/9x"} {
		expectPut(t, a, path, []byte("x"), 1)
		expectGet(t, a, path, 1, []byte("x"))
	}
}

// P5: how long a content may be.
func TestPutBySize(t *testing.T) {
	a := fresh(t)
	for i, n := range []int{0, 1, 15, 16, 17, 255, 256, 257, 3999, 4000} {
		expectPut(t, a, "a", noise(uint32(n), n), i+1)
		expectGet(t, a, "a", 0, noise(uint32(n), n))
	}
	for _, n := range []int{4001, 5000, 1 << 20} {
		expectNoPut(t, a, "a", make([]byte, n), api.ErrSize)
	}
	expectVersions(t, a, "a", 1, 2, 3, 4, 5, 6, 7, 8, 9, 10)
}

// P5: all versions together may have just the quota; contents that are the same count each.
func TestPutByQuota(t *testing.T) {
	a := opened(t, api.NewDevice(400), 100)
	content := noise(1, 40)
	expectPut(t, a, "a", content, 1)
	expectPut(t, a, "a", content, 2)
	expectNoPut(t, a, "b", content[:21], api.ErrQuota)
	expectNoPut(t, a, "b", noise(2, 4000), api.ErrQuota)
	expectPut(t, a, "b", content[:20], 1)
	expectNoPut(t, a, "b", content[:1], api.ErrQuota)
	expectPut(t, a, "b", nil, 2)
	expectVersions(t, a, "b", 1, 2)
}

// P1, P5: the error that is named first goes first.
func TestPutErrorsInOrder(t *testing.T) {
	a := opened(t, api.NewDevice(16), 10)
	long := make([]byte, api.MaxContent+1)
	expectNoPut(t, a, "A", long, api.ErrPath)
	expectNoPut(t, a, "A", long[:11], api.ErrPath)
	expectNoPut(t, a, "a", long, api.ErrSize)
	expectNoPut(t, a, "a", noise(1, 4000), api.ErrQuota)
	a.Close()
	expectNoPut(t, a, "A", long, api.ErrClosed)
	expectNoPut(t, a, "a", long, api.ErrClosed)
	expectNoPut(t, a, "a", long[:11], api.ErrClosed)
}

// P5: numbers go up path by path, and a Put that is refused takes none.
func TestPutNumbers(t *testing.T) {
	a := opened(t, api.NewDevice(400), 100)
	for i := range 5 {
		expectPut(t, a, "a", []byte("x"), i+1)
		expectPut(t, a, "a/b", []byte("x"), i+1)
		expectNoPut(t, a, "a", make([]byte, 4001), api.ErrSize)
		expectNoPut(t, a, "a", make([]byte, 4000), api.ErrQuota)
	}
	expectVersions(t, a, "a", 1, 2, 3, 4, 5)
}

// smallChunks makes n bytes of which each chunk has 16, and no two are the same.
func smallChunks(seed uint32, n int) []byte {
	var data []byte
	for i := uint32(0); len(data) < n; i++ {
		data = append(data, byte(seed), byte(seed>>8), byte(i), byte(i>>8))
		data = append(data, ending(12, ends8)...)
	}
	return data[:n]
}

func TestSmallChunks(t *testing.T) {
	for _, n := range versions.Cuts(smallChunks(700, 4000)) {
		if n != 16 {
			t.Fatalf("a chunk of %d bytes", n)
		}
	}
}

// What is the same is kept once: within a content, and from one to another.
func TestPutKeepsTheSameOnce(t *testing.T) {
	a := opened(t, api.NewDevice(110), plenty)
	content := noise(1, 4000)
	for i := range 3 {
		expectPut(t, a, "a", content, i+1)
		expectPut(t, a, "b", append([]byte("xyz"), content[:3000]...), i+1)
	}
	b := opened(t, api.NewDevice(16), plenty)
	expectPut(t, b, "a", bytes.Repeat([]byte("a"), 4000), 1)
	expectGet(t, b, "a", 1, bytes.Repeat([]byte("a"), 4000))
}

// sameSum finds two chunks of 16 bytes that have the same sum. Each of them ends where it ends whatever is around it.
func sameSum(t *testing.T) ([]byte, []byte) {
	t.Helper()
	made := func(seed uint32) []byte { return append(noise(seed, 4), ending(12, ends8)...) }
	seen := map[[4]byte]uint32{}
	for seed := range uint32(1 << 22) {
		sum := catalog.SumOf(made(seed))
		if other, ok := seen[sum]; ok && !bytes.Equal(made(seed), made(other)) {
			return made(other), made(seed)
		}
		seen[sum] = seed
	}
	t.Fatal("there are none")
	return nil, nil
}

// Chunks whose sums are the same may have other lengths too.
func TestPutOfSameSumsOfOtherLengths(t *testing.T) {
	shorter := map[[4]byte][]byte{}
	for seed := range uint32(1 << 17) {
		shorter[catalog.SumOf(noise(seed, 5))] = noise(seed, 5)
	}
	for seed := uint32(0); ; seed++ {
		y := noise(seed, 6)
		x, ok := shorter[catalog.SumOf(y)]
		if !ok {
			continue
		}
		a := fresh(t)
		for i, c := range [][]byte{x, y, x, y} {
			expectPut(t, a, "a", c, i+1)
			expectGet(t, a, "a", i+1, c)
		}
		expectStored(t, "two chunks", a, 2, 11)
		return
	}
}

// Chunks whose sums are the same are told apart by their bytes: on the device, and within a content.
func TestPutOfSameSums(t *testing.T) {
	x, y := sameSum(t)
	expectCuts(t, "three chunks", slices.Concat(x, y, x), 16, 16, 16)
	contents := [][]byte{slices.Concat(x, y, x, y), x, y, slices.Concat(y, x), y}
	d := api.NewDevice(100)
	for i, c := range contents {
		a := opened(t, d, plenty)
		expectPut(t, a, "a", c, i+1)
		for k, c := range contents[:i+1] {
			expectGet(t, a, "a", k+1, c)
		}
		a.Close()
		b := opened(t, api.NewDevice(100), plenty)
		expectPut(t, b, "a", y, 1)
		expectPut(t, b, "a", c, 2)
		expectGet(t, b, "a", 2, c)
	}
}
