package catalog

import (
	"strings"
	"testing"
)

func TestIsPath(t *testing.T) {
	for _, s := range []string{
		"a", "z", "0", "9", ".", "-", "_", "..", "a/b", "a/b/c", "./..", "-/_",
		strings.Repeat("a", 20), "abcdefghij/klmnopqrs", "a/a/a/a/a/a/a/a/a/aa",
	} {
		if !IsPath(s) {
			t.Errorf("%q is a path", s)
		}
	}
	for _, s := range []string{
		"", "/", "//", "/a", "a/", "a//b", "/a/b", "a/b/", "a///b",
		strings.Repeat("a", 21), "abcdefghij/klmnopqrst", strings.Repeat("a", 1<<20),
		"A", "Z", "a b", " ", "a\x00", "\n", "a\\b", "a,b", "a:b", "`", "{", "@", "é", "\xe9", "a\xff", "а", "a/\U0001f600",
	} {
		if IsPath(s) {
			t.Errorf("%q is no path", s)
		}
	}
}

// Of all bytes just those that the document names are names.
func TestIsPathOfEachByte(t *testing.T) {
	for b := range 256 {
		s := string([]byte{byte(b)})
		want := strings.Contains("abcdefghijklmnopqrstuvwxyz0123456789.-_", s)
		if IsPath(s) != want || IsPath("a"+s+"a") != (want || s == "/") {
			t.Errorf("%q: a name: %v", s, IsPath(s))
		}
	}
}

// A / at every place of a path of 20 bytes: at all but the first and the last.
func TestIsPathWithSlashes(t *testing.T) {
	const n = 20
	for i := range n {
		b := []byte(strings.Repeat("a", n))
		b[i] = '/'
		if IsPath(string(b)) != (i > 0 && i < n-1) {
			t.Errorf("%q: %v", b, IsPath(string(b)))
		}
		for k := i + 1; k < n; k++ {
			b[k] = '/'
			if IsPath(string(b)) != (i > 0 && k < n-1 && k > i+1) {
				t.Errorf("%q: %v", b, IsPath(string(b)))
			}
			b[k] = 'a'
		}
	}
}
