package record

import (
	"math/rand"
	"strings"
	"testing"

	"versions/api"
)

func expectText(t *testing.T, s string) {
	t.Helper()
	b := appendText([]byte("ahead"), s)
	if string(b[:5]) != "ahead" {
		t.Fatalf("%q: what stands ahead is %q", s, b[:5])
	}
	if got, ok := textOf(b[5:]); got != s || !ok {
		t.Fatalf("%q: %q, %v", s, got, ok)
	}
}

func TestText(t *testing.T) {
	expectText(t, "")
	for i, x := range letters {
		expectText(t, string(x))
		expectText(t, string(x)+"a")
		expectText(t, "a"+string(x))
		for n := range api.MaxPath + 1 {
			expectText(t, strings.Repeat(letters[i:i+1], n))
		}
	}
	r := rand.New(rand.NewSource(1))
	for range 5000 {
		s := make([]byte, r.Intn(api.MaxPath+1))
		for i := range s {
			s[i] = letters[r.Intn(len(letters))]
		}
		expectText(t, string(s))
	}
}

// No text has more bytes than that, and the greatest one has them.
func TestMaxText(t *testing.T) {
	if n := len(appendText(nil, strings.Repeat("/", api.MaxPath))); n != maxText {
		t.Errorf("%d bytes, want %d", n, maxText)
	}
}

// The letters are those of the document, each of them once.
func TestLetters(t *testing.T) {
	for b := range 256 {
		want := 0
		if b >= 'a' && b <= 'z' || b >= '0' && b <= '9' || strings.Contains("._-/", string([]byte{byte(b)})) {
			want = 1
		}
		if n := strings.Count(letters, string([]byte{byte(b)})); n != want {
			t.Errorf("the byte %d is there %d times", b, n)
		}
	}
}
