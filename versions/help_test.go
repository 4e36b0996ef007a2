package versions_test

import (
	"bytes"
	"fmt"
	"slices"
	"testing"

	"versions/api"
	"versions/versions"
)

const plenty = 1 << 30

// opened is an archive over a device that can be opened.
func opened(t testing.TB, d *api.Device, quota int) *versions.Archive {
	t.Helper()
	a, err := versions.Open(d, quota)
	if err != nil || a == nil {
		t.Fatalf("Open: %v, %v", a, err)
	}
	return a
}

// fresh is an archive over an empty device with room.
func fresh(t testing.TB) *versions.Archive {
	t.Helper()
	return opened(t, api.NewDevice(4000), plenty)
}

func expectError(t testing.TB, what string, err error, want api.Errno) {
	t.Helper()
	if api.Tell(err) != want {
		t.Errorf("%s: %v, want error %d", what, err, want)
	}
}

func expectPut(t testing.TB, a *versions.Archive, path string, content []byte, want int) {
	t.Helper()
	if n, err := a.Put(path, content); n != want || err != nil {
		t.Errorf("Put(%q) of %d bytes: %d, %v, want %d", path, len(content), n, err, want)
	}
}

func expectNoPut(t testing.TB, a *versions.Archive, path string, content []byte, want api.Errno) {
	t.Helper()
	n, err := a.Put(path, content)
	if n != 0 {
		t.Errorf("Put(%q): the number %d beside %v", path, n, err)
	}
	expectError(t, fmt.Sprintf("Put(%q) of %d bytes", path, len(content)), err, want)
}

func expectGet(t testing.TB, a *versions.Archive, path string, version int, want []byte) {
	t.Helper()
	if b, err := a.Get(path, version); err != nil || !bytes.Equal(b, want) {
		t.Errorf("Get(%q, %d): %.40q of %d bytes, %v, want %.40q of %d bytes", path, version, b, len(b), err, want, len(want))
	}
}

func expectNoGet(t testing.TB, a *versions.Archive, path string, version int, want api.Errno) {
	t.Helper()
	b, err := a.Get(path, version)
	if len(b) != 0 {
		t.Errorf("Get(%q, %d): bytes beside %v", path, version, err)
	}
	expectError(t, fmt.Sprintf("Get(%q, %d)", path, version), err, want)
}

func expectVersions(t testing.TB, a *versions.Archive, path string, want ...int) {
	t.Helper()
	if got, err := a.Versions(path); err != nil || !slices.Equal(got, want) {
		t.Errorf("Versions(%q): %v, %v, want %v", path, got, err, want)
	}
}

func expectList(t testing.TB, a *versions.Archive, prefix string, want ...api.Entry) {
	t.Helper()
	if got, err := a.List(prefix); err != nil || !slices.Equal(got, want) {
		t.Errorf("List(%q): %v, %v, want %v", prefix, got, err, want)
	}
}

// expectMissing: a path has no versions.
func expectMissing(t testing.TB, a *versions.Archive, path string) {
	t.Helper()
	numbers, err := a.Versions(path)
	if len(numbers) != 0 {
		t.Errorf("Versions(%q): %v beside %v", path, numbers, err)
	}
	expectError(t, fmt.Sprintf("Versions(%q)", path), err, api.ErrMissing)
}

func expectDelete(t testing.TB, a *versions.Archive, path string, version int, want api.Errno) {
	t.Helper()
	expectError(t, fmt.Sprintf("Delete(%q, %d)", path, version), a.Delete(path, version), want)
}

func expectPrune(t testing.TB, a *versions.Archive, path string, keep, want int) {
	t.Helper()
	if n, err := a.Prune(path, keep); n != want || err != nil {
		t.Errorf("Prune(%q, %d): %d, %v, want %d", path, keep, n, err, want)
	}
}

func expectNoPrune(t testing.TB, a *versions.Archive, path string, keep int, want api.Errno) {
	t.Helper()
	n, err := a.Prune(path, keep)
	if n != 0 {
		t.Errorf("Prune(%q, %d): %d beside %v", path, keep, n, err)
	}
	expectError(t, fmt.Sprintf("Prune(%q, %d)", path, keep), err, want)
}

func expectTag(t testing.TB, a *versions.Archive, name, path string, version int, want api.Errno) {
	t.Helper()
	expectError(t, fmt.Sprintf("Tag(%q, %q, %d)", name, path, version), a.Tag(name, path, version), want)
}

func expectUntag(t testing.TB, a *versions.Archive, name string, want api.Errno) {
	t.Helper()
	expectError(t, fmt.Sprintf("Untag(%q)", name), a.Untag(name), want)
}

func expectTags(t testing.TB, a *versions.Archive, want ...api.Pin) {
	t.Helper()
	if got, err := a.Tags(); err != nil || !slices.Equal(got, want) {
		t.Errorf("Tags: %v, %v, want %v", got, err, want)
	}
}

func expectStored(t testing.TB, what string, a *versions.Archive, chunks, bytes int) {
	t.Helper()
	if got, err := a.Stored(); err != nil || got != (api.Stored{Chunks: chunks, Bytes: bytes}) {
		t.Errorf("Stored, %s: %v, %v, want %d, %d", what, got, err, chunks, bytes)
	}
}

func collected(t testing.TB, a *versions.Archive) {
	t.Helper()
	expectError(t, "Collect", a.Collect(), api.OK)
}

// reopened closes an archive, and opens one over the device again.
func reopened(t testing.TB, a *versions.Archive, d *api.Device, quota int) *versions.Archive {
	t.Helper()
	expectError(t, "Close", a.Close(), api.OK)
	return opened(t, d, quota)
}
