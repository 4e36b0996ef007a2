package versions_test

import (
	"fmt"
	"math"
	"testing"

	"versions/api"
	"versions/versions"
)

func expectRead(t testing.TB, a *versions.Archive, path string, version, at, n int, want string) {
	t.Helper()
	if b, err := a.ReadAt(path, version, at, n); err != nil || string(b) != want {
		t.Errorf("ReadAt(%q, %d, %d, %d): %.40q, %v, want %.40q", path, version, at, n, b, err, want)
	}
}

func expectNoRead(t testing.TB, a *versions.Archive, path string, version, at, n int, want api.Errno) {
	t.Helper()
	b, err := a.ReadAt(path, version, at, n)
	if len(b) != 0 {
		t.Errorf("ReadAt(%q, %d, %d, %d): bytes beside %v", path, version, at, n, err)
	}
	expectError(t, fmt.Sprintf("ReadAt(%q, %d, %d, %d)", path, version, at, n), err, want)
}

// P6: Get, by versions.
func TestGet(t *testing.T) {
	a := fresh(t)
	expectNoGet(t, a, "a", 0, api.ErrMissing)
	expectNoGet(t, a, "a", 1, api.ErrMissing)
	expectPut(t, a, "a", []byte("one"), 1)
	expectPut(t, a, "a", nil, 2)
	expectPut(t, a, "a", []byte("three"), 3)
	expectPut(t, a, "a/b", nil, 1)
	for version, want := range map[int]string{0: "three", 1: "one", 2: "", 3: "three"} {
		expectGet(t, a, "a", version, []byte(want))
	}
	expectGet(t, a, "a/b", 0, nil)
	for _, version := range []int{-1, 4, math.MaxInt, math.MinInt, 1 << 32, 1<<32 + 1} {
		expectNoGet(t, a, "a", version, api.ErrMissing)
		expectNoRead(t, a, "a", version, 0, 1, api.ErrMissing)
	}
	expectNoGet(t, a, "b", 0, api.ErrMissing)
	expectNoGet(t, a, "a/", 0, api.ErrPath)
	expectNoGet(t, a, "", 1, api.ErrPath)
}

// P6: ReadAt at the edges.
func TestReadAt(t *testing.T) {
	a := fresh(t)
	expectPut(t, a, "a", []byte("second"), 1)
	expectPut(t, a, "e", nil, 1)
	for _, c := range []struct {
		at, n int
		want  string
	}{
		{0, 0, ""}, {0, 1, "s"}, {0, 6, "second"}, {0, 7, "second"}, {0, math.MaxInt, "second"},
		{2, 3, "con"}, {5, 1, "d"}, {5, 2, "d"}, {5, math.MaxInt, "d"},
		{6, 0, ""}, {6, 1, ""}, {6, math.MaxInt, ""},
	} {
		expectRead(t, a, "a", 1, c.at, c.n, c.want)
		expectRead(t, a, "a", 0, c.at, c.n, c.want)
	}
	for _, c := range []struct{ at, n int }{
		{-1, 0}, {-1, 1}, {0, -1}, {6, -1}, {7, 0}, {7, 1}, {7, -1}, {-1, -1},
		{math.MinInt, 5}, {5, math.MinInt}, {math.MaxInt, 0}, {math.MaxInt, math.MaxInt},
	} {
		expectNoRead(t, a, "a", 1, c.at, c.n, api.ErrRange)
	}
	expectRead(t, a, "e", 1, 0, 0, "")
	expectRead(t, a, "e", 1, 0, 9, "")
	expectNoRead(t, a, "e", 1, 1, 0, api.ErrRange)
}

// P1, P6: the error that is named first goes first.
func TestReadErrorsInOrder(t *testing.T) {
	a := fresh(t)
	expectPut(t, a, "a", []byte("one"), 1)
	expectNoRead(t, a, "A", 9, -1, -1, api.ErrPath)
	expectNoRead(t, a, "a", 9, -1, -1, api.ErrMissing)
	expectNoRead(t, a, "b", 0, -1, -1, api.ErrMissing)
	expectNoRead(t, a, "a", 1, -1, -1, api.ErrRange)
	expectNoGet(t, a, "A", 9, api.ErrPath)
	a.Close()
	expectNoRead(t, a, "A", 9, -1, -1, api.ErrClosed)
	expectNoGet(t, a, "A", 9, api.ErrClosed)
}

// P6: all pieces of a content of many chunks, some of which are the same, and of which others are older than it.
func TestReadAtOfManyChunks(t *testing.T) {
	d := api.NewDevice(400)
	a := opened(t, d, plenty)
	older := noise(1, 900)
	expectPut(t, a, "a", older, 1)
	content := append(make([]byte, 600), older...)
	content = append(content, noise(2, 300)...)
	expectPut(t, a, "a", content, 2)
	for range 2 {
		for at := 0; at <= len(content); at += 7 {
			for n := 0; n < len(content)+200; n += 61 {
				expectRead(t, a, "a", 2, at, n, string(content[at:min(at+n, len(content))]))
			}
		}
		expectGet(t, a, "a", 2, content)
		expectGet(t, a, "a", 1, older)
		a.Close()
		a = opened(t, d, plenty)
	}
}
