package versions_test

import (
	"bytes"
	"math/rand"
	"slices"
	"strings"
	"testing"

	"versions/api"
	"versions/catalog"
	"versions/versions"
)

// The document's second table, as far as it has Put, Get, ReadAt and List.
func TestExamples(t *testing.T) {
	a := opened(t, api.NewDevice(1000), 100000)
	expectPut(t, a, "a", []byte("one"), 1)
	expectPut(t, a, "a", []byte("second"), 2)
	expectPut(t, a, "b/c", nil, 1)
	expectGet(t, a, "a", 0, []byte("second"))
	expectGet(t, a, "a", 1, []byte("one"))
	expectNoGet(t, a, "a", 3, api.ErrMissing)
	expectRead(t, a, "a", 2, 3, 99, "ond")
	expectRead(t, a, "a", 1, 3, 0, "")
	expectNoRead(t, a, "a", 1, 4, 0, api.ErrRange)
	expectList(t, a, "", api.Entry{Path: "a", Latest: 2, Size: 6, Versions: 2}, api.Entry{Path: "b/c", Latest: 1, Size: 0, Versions: 1})
	for _, path := range []string{"a//b", "A", "a/"} {
		expectNoPut(t, a, path, []byte("x"), api.ErrPath)
	}
	expectVersions(t, a, "a", 1, 2)
}

// P5: which texts are paths (all of it in package catalog).
func TestPutByPath(t *testing.T) {
	a := fresh(t)
	for _, path := range []string{"", "/", "a/", "/a", "a//b", "A", "a b", strings.Repeat("a", 21), "\xff", "é"} {
		expectNoPut(t, a, path, []byte("x"), api.ErrPath)
	}
	expectList(t, a, "")
	for _, path := range []string{"a", "-", "..", "a/b", strings.Repeat("a", 20), "0/1/2/3/4/5/6/7/8/9x"} {
		expectPut(t, a, path, []byte("x"), 1)
		expectGet(t, a, path, 1, []byte("x"))
	}
}

// P5: how long a content may be.
func TestPutBySize(t *testing.T) {
	a := fresh(t)
	for i, n := range []int{0, 1, 15, 16, 17, 255, 256, 257, 3999, 4000} {
		expectPut(t, a, "a", noise(uint32(n), n), i+1)
		expectGet(t, a, "a", 0, noise(uint32(n), n))
	}
	for _, n := range []int{4001, 5000, 1 << 20} {
		expectNoPut(t, a, "a", make([]byte, n), api.ErrSize)
	}
	expectVersions(t, a, "a", 1, 2, 3, 4, 5, 6, 7, 8, 9, 10)
}

// P5: all versions together may have just the quota; contents that are the same count each.
func TestPutByQuota(t *testing.T) {
	a := opened(t, api.NewDevice(400), 100)
	content := noise(1, 40)
	expectPut(t, a, "a", content, 1)
	expectPut(t, a, "a", content, 2)
	expectNoPut(t, a, "b", content[:21], api.ErrQuota)
	expectNoPut(t, a, "b", noise(2, 4000), api.ErrQuota)
	expectPut(t, a, "b", content[:20], 1)
	expectNoPut(t, a, "b", content[:1], api.ErrQuota)
	expectPut(t, a, "b", nil, 2)
	expectVersions(t, a, "b", 1, 2)
}

// P1, P5: the error that is named first goes first.
func TestPutErrorsInOrder(t *testing.T) {
	a := opened(t, api.NewDevice(16), 10)
	long := make([]byte, api.MaxContent+1)
	expectNoPut(t, a, "A", long, api.ErrPath)
	expectNoPut(t, a, "A", long[:11], api.ErrPath)
	expectNoPut(t, a, "a", long, api.ErrSize)
	expectNoPut(t, a, "a", noise(1, 4000), api.ErrQuota)
	a.Close()
	expectNoPut(t, a, "A", long, api.ErrClosed)
	expectNoPut(t, a, "a", long, api.ErrClosed)
	expectNoPut(t, a, "a", long[:11], api.ErrClosed)
}

// P5: numbers go up path by path, and a Put that is refused takes none.
func TestPutNumbers(t *testing.T) {
	a := opened(t, api.NewDevice(400), 100)
	for i := range 5 {
		expectPut(t, a, "a", []byte("x"), i+1)
		expectPut(t, a, "a/b", []byte("x"), i+1)
		expectNoPut(t, a, "a", make([]byte, 4001), api.ErrSize)
		expectNoPut(t, a, "a", make([]byte, 4000), api.ErrQuota)
	}
	expectVersions(t, a, "a", 1, 2, 3, 4, 5)
}

// P12: a Put for which there is no room changes nothing, and a smaller one goes on.
func TestPutWithoutRoom(t *testing.T) {
	d := api.NewDevice(40)
	a := opened(t, d, plenty)
	expectPut(t, a, "a", noise(1, 2500), 1)
	expectNoPut(t, a, "a", noise(2, 3000), api.ErrFull)
	expectNoPut(t, a, "b", noise(2, 3000), api.ErrFull)
	expectNoGet(t, a, "b", 0, api.ErrMissing)
	expectVersions(t, a, "a", 1)
	expectPut(t, a, "b", noise(2, 1000), 1)
	full := 0
	for i := range 100 {
		n, err := a.Put("c", noise(uint32(i), 50))
		if err != nil {
			expectError(t, "no room", err, api.ErrFull)
			full++
			continue
		}
		if full > 0 || n != i+1 {
			t.Errorf("Put %d: %d, behind %d without room", i, n, full)
		}
	}
	before := tell(t, a)
	if err := a.Close(); err != nil || full == 0 {
		t.Errorf("Close: %v; %d without room", err, full)
	}
	if got := tell(t, opened(t, d, plenty)); got != before {
		t.Errorf("%q\nwant\n%q", got, before)
	}
}

// P12: there is room for as much as is promised. The chunks are as small as can be, and no two the same.
func TestPutWithRoom(t *testing.T) {
	for _, sectors := range []int{80, 200, 1000} {
		a := opened(t, api.NewDevice(sectors), plenty)
		room := sectors*api.SectorSize/4 - 2000
		for i := 0; ; i++ {
			n := min(4000, room-300)
			if i%5 == 4 {
				n = 0
			}
			if n < 0 || room < 300 {
				break
			}
			expectPut(t, a, "abcdefghij/klmnopqrs", smallChunks(uint32(i), n), i+1)
			room -= n + 300
		}
	}
}

// smallChunks makes n bytes of which each chunk has 16, and no two are the same.
func smallChunks(seed uint32, n int) []byte {
	var data []byte
	for i := uint32(0); len(data) < n; i++ {
		data = append(data, byte(seed), byte(seed>>8), byte(i), byte(i>>8))
		data = append(data, ending(12, ends8)...)
	}
	return data[:n]
}

func TestSmallChunks(t *testing.T) {
	for _, n := range versions.Cuts(smallChunks(700, 4000)) {
		if n != 16 {
			t.Fatalf("a chunk of %d bytes", n)
		}
	}
}

// What is the same is kept once: within a content, and from one to another.
func TestPutKeepsTheSameOnce(t *testing.T) {
	a := opened(t, api.NewDevice(60), plenty)
	content := noise(1, 4000)
	for i := range 3 {
		expectPut(t, a, "a", content, i+1)
		expectPut(t, a, "b", append([]byte("xyz"), content[:3000]...), i+1)
	}
	b := opened(t, api.NewDevice(16), plenty)
	expectPut(t, b, "a", bytes.Repeat([]byte("a"), 4000), 1)
	expectGet(t, b, "a", 1, bytes.Repeat([]byte("a"), 4000))
}

// sameSum finds two chunks of 16 bytes that have the same sum. Each of them ends where it ends whatever is around it.
func sameSum(t *testing.T) ([]byte, []byte) {
	t.Helper()
	made := func(seed uint32) []byte { return append(noise(seed, 4), ending(12, ends8)...) }
	seen := map[[4]byte]uint32{}
	for seed := range uint32(1 << 22) {
		sum := catalog.SumOf(made(seed))
		if other, ok := seen[sum]; ok && !bytes.Equal(made(seed), made(other)) {
			return made(other), made(seed)
		}
		seen[sum] = seed
	}
	t.Fatal("there are none")
	return nil, nil
}

// Chunks whose sums are the same are told apart by their bytes: on the device, and within a content.
func TestPutOfSameSums(t *testing.T) {
	x, y := sameSum(t)
	expectCuts(t, "three chunks", slices.Concat(x, y, x), 16, 16, 16)
	contents := [][]byte{slices.Concat(x, y, x, y), x, y, slices.Concat(y, x), y}
	d := api.NewDevice(100)
	for i, c := range contents {
		a := opened(t, d, plenty)
		expectPut(t, a, "a", c, i+1)
		for k, c := range contents[:i+1] {
			expectGet(t, a, "a", k+1, c)
		}
		a.Close()
		b := opened(t, api.NewDevice(100), plenty)
		expectPut(t, b, "a", y, 1)
		expectPut(t, b, "a", c, 2)
		expectGet(t, b, "a", 2, c)
	}
}

// P4 to P7, P11: many calls, held against a model; now and then the archive is closed, or left, and opened again.
func TestAgainstAModel(t *testing.T) {
	for seed := range int64(20) {
		r := rand.New(rand.NewSource(seed))
		d := api.NewDevice(3000)
		a := opened(t, d, plenty)
		m := model{}
		for range 150 {
			switch r.Intn(12) {
			case 0:
				if err := a.Sync(); err != nil {
					t.Fatal(err)
				}
			case 1:
				if r.Intn(2) == 0 {
					a.Close()
				}
				a = opened(t, d, plenty)
			default:
				path := []string{"a", "b", "a/b", "a.b"}[r.Intn(4)]
				content := slices.Concat(noise(uint32(r.Intn(9)), r.Intn(100)), noise(uint32(r.Intn(3)), r.Intn(1200)))
				expectPut(t, a, path, content, m.put(path, content))
			}
		}
		if got, want := tell(t, a), m.tell(); got != want {
			t.Fatalf("seed %d: %.2000q\nwant\n%.2000q", seed, got, want)
		}
	}
}
