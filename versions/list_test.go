package versions_test

import (
	"fmt"
	"slices"
	"strings"
	"testing"

	"versions/api"
)

// P7: Versions.
func TestVersions(t *testing.T) {
	a := fresh(t)
	for _, path := range []string{"a", "b", "a/b"} {
		numbers, err := a.Versions(path)
		if len(numbers) != 0 {
			t.Errorf("numbers beside %v", err)
		}
		expectError(t, "no versions", err, api.ErrMissing)
	}
	for i := range 12 {
		expectPut(t, a, "a", []byte("x"), i+1)
	}
	expectVersions(t, a, "a", 1, 2, 3, 4, 5, 6, 7, 8, 9, 10, 11, 12)
	for _, path := range []string{"", "/", "A", "a/", strings.Repeat("a", 21)} {
		numbers, err := a.Versions(path)
		if len(numbers) != 0 {
			t.Errorf("numbers beside %v", err)
		}
		expectError(t, "no path", err, api.ErrPath)
	}
}

// P7: List, by prefixes of all kinds.
func TestList(t *testing.T) {
	a := fresh(t)
	expectList(t, a, "")
	expectList(t, a, "a")
	paths := []string{"b", "a", "a/b", "a-b", "a.b", "a_b", "ab", "0", "z", "-", "_", ".", "a/b/c", strings.Repeat("z", 20)}
	var all []api.Entry
	for i, path := range paths {
		for k := range i%3 + 1 {
			expectPut(t, a, path, make([]byte, i+k), k+1)
		}
		all = append(all, api.Entry{Path: path, Latest: i%3 + 1, Size: i + i%3, Versions: i%3 + 1})
	}
	slices.SortFunc(all, func(x, y api.Entry) int { return strings.Compare(x.Path, y.Path) })
	for _, prefix := range []string{
		"", "a", "a/", "a/b", "a/b/c", "a/b/c/", "b", "z", "zz", strings.Repeat("z", 20), strings.Repeat("z", 21),
		"/", "A", "//", "\x00", "\xff", "é", " ", ".", "-", strings.Repeat("a", 1<<16),
	} {
		var want []api.Entry
		for _, e := range all {
			if strings.HasPrefix(e.Path, prefix) {
				want = append(want, e)
			}
		}
		expectList(t, a, prefix, want...)
	}
}

// P7: the order is that of the bytes, whatever order the paths were put in.
func TestListIsSorted(t *testing.T) {
	a := fresh(t)
	for i := range 100 {
		expectPut(t, a, fmt.Sprint("p", i*37%100), nil, 1)
	}
	for range 5 {
		entries, err := a.List("p")
		if err != nil || len(entries) != 100 || !slices.IsSortedFunc(entries, func(x, y api.Entry) int { return strings.Compare(x.Path, y.Path) }) {
			t.Fatalf("%v, %v", entries, err)
		}
	}
}
