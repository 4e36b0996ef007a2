package versions_test

import (
	"bytes"
	"fmt"
	"slices"
	"strconv"
	"strings"
	"testing"

	"versions/api"
	"versions/versions"
)

const plenty = 1 << 30

// opened is an archive over a device that can be opened.
func opened(t testing.TB, d *api.Device, quota int) *versions.Archive {
	t.Helper()
	a, err := versions.Open(d, quota)
	if err != nil || a == nil {
		t.Fatalf("Open: %v, %v", a, err)
	}
	return a
}

// fresh is an archive over an empty device with room.
func fresh(t testing.TB) *versions.Archive {
	t.Helper()
	return opened(t, api.NewDevice(4000), plenty)
}

func expectError(t testing.TB, what string, err error, want api.Errno) {
	t.Helper()
	if api.Tell(err) != want {
		t.Errorf("%s: %v, want error %d", what, err, want)
	}
}

func expectPut(t testing.TB, a *versions.Archive, path string, content []byte, want int) {
	t.Helper()
	if n, err := a.Put(path, content); n != want || err != nil {
		t.Errorf("Put(%q) of %d bytes: %d, %v, want %d", path, len(content), n, err, want)
	}
}

func expectNoPut(t testing.TB, a *versions.Archive, path string, content []byte, want api.Errno) {
	t.Helper()
	n, err := a.Put(path, content)
	if n != 0 {
		t.Errorf("Put(%q): the number %d beside %v", path, n, err)
	}
	expectError(t, fmt.Sprintf("Put(%q) of %d bytes", path, len(content)), err, want)
}

func expectGet(t testing.TB, a *versions.Archive, path string, version int, want []byte) {
	t.Helper()
	if b, err := a.Get(path, version); err != nil || !bytes.Equal(b, want) {
		t.Errorf("Get(%q, %d): %.40q of %d bytes, %v, want %.40q of %d bytes", path, version, b, len(b), err, want, len(want))
	}
}

func expectNoGet(t testing.TB, a *versions.Archive, path string, version int, want api.Errno) {
	t.Helper()
	b, err := a.Get(path, version)
	if len(b) != 0 {
		t.Errorf("Get(%q, %d): bytes beside %v", path, version, err)
	}
	expectError(t, fmt.Sprintf("Get(%q, %d)", path, version), err, want)
}

func expectVersions(t testing.TB, a *versions.Archive, path string, want ...int) {
	t.Helper()
	if got, err := a.Versions(path); err != nil || !slices.Equal(got, want) {
		t.Errorf("Versions(%q): %v, %v, want %v", path, got, err, want)
	}
}

func expectList(t testing.TB, a *versions.Archive, prefix string, want ...api.Entry) {
	t.Helper()
	if got, err := a.List(prefix); err != nil || !slices.Equal(got, want) {
		t.Errorf("List(%q): %v, %v, want %v", prefix, got, err, want)
	}
}

// model is what an archive has, as plainly as can be: the contents of each path, by their numbers less 1.
type model map[string][]string

// put adds a version and tells its number.
func (m model) put(path string, content []byte) int {
	m[path] = append(m[path], string(content))
	return len(m[path])
}

// line tells a version.
func line(path string, number, all int, content string) string {
	return path + " " + strconv.Itoa(number) + " of " + strconv.Itoa(all) + ": " + content
}

// tell tells all that is there.
func (m model) tell() string {
	var lines []string
	for path, contents := range m {
		for i, c := range contents {
			lines = append(lines, line(path, i+1, len(contents), c))
		}
	}
	slices.Sort(lines)
	return strings.Join(lines, "\n")
}

// tell tells all that an archive has, as model.tell does; and whether List, Versions, Get and ReadAt agree with one another.
func tell(t testing.TB, a *versions.Archive) string {
	t.Helper()
	var lines []string
	entries, err := a.List("")
	if err != nil {
		t.Fatalf("List: %v", err)
	}
	for _, e := range entries {
		numbers, err := a.Versions(e.Path)
		if err != nil || len(numbers) != e.Versions || numbers[len(numbers)-1] != e.Latest {
			t.Fatalf("%v, but Versions: %v, %v", e, numbers, err)
		}
		for _, n := range numbers {
			b, err := a.Get(e.Path, n)
			if err != nil || n == e.Latest && len(b) != e.Size {
				t.Fatalf("%v, but Get of %d: %d bytes, %v", e, n, len(b), err)
			}
			lines = append(lines, line(e.Path, n, len(numbers), string(b)))
		}
	}
	slices.Sort(lines)
	return strings.Join(lines, "\n")
}
