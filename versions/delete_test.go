package versions_test

import (
	"math"
	"slices"
	"strings"
	"testing"

	"versions/api"
	"versions/versions"
)

// noPaths are texts that are none.
var noPaths = []string{"", "/", "//", "a/", "/a", "a//b", "A", "a b", strings.Repeat("a", 21), "\xff", "é"}

// withVersions puts n versions of a path, whose contents are the same but for their last byte.
func withVersions(t testing.TB, a *versions.Archive, path string, n int) {
	t.Helper()
	for i := range n {
		expectPut(t, a, path, append(noise(1, 100), byte(i)), i+1)
	}
}

// P8: which version Delete takes: 0 stands for the latest one.
func TestDelete(t *testing.T) {
	d := api.NewDevice(400)
	a := opened(t, d, plenty)
	withVersions(t, a, "a", 5)
	withVersions(t, a, "a/b", 1)
	left := []int{1, 2, 3, 4, 5}
	for _, version := range []int{2, 0, 1, 0} {
		i := slices.Index(left, version)
		if version == 0 {
			i = len(left) - 1
		}
		expectDelete(t, a, "a", version, api.OK)
		expectNoGet(t, a, "a", left[i], api.ErrMissing)
		left = slices.Delete(left, i, i+1)
		expectVersions(t, a, "a", left...)
		for _, n := range left {
			expectGet(t, a, "a", n, append(noise(1, 100), byte(n-1)))
		}
		a = reopened(t, a, d, plenty)
		expectVersions(t, a, "a", left...)
	}
	expectList(t, a, "", api.Entry{Path: "a", Latest: 3, Size: 101, Versions: 1}, api.Entry{Path: "a/b", Latest: 1, Size: 101, Versions: 1})
}

// P8: versions that are not there.
func TestDeleteOfNone(t *testing.T) {
	a := fresh(t)
	for _, version := range []int{0, 1, -1} {
		expectDelete(t, a, "a", version, api.ErrMissing)
	}
	withVersions(t, a, "a", 4)
	expectDelete(t, a, "a", 2, api.OK)
	expectDelete(t, a, "a", 4, api.OK)
	for _, version := range []int{2, 4, 5, -1, -3, math.MinInt, math.MaxInt, 1 << 32, 1<<32 + 1} {
		expectDelete(t, a, "a", version, api.ErrMissing)
	}
	for _, path := range []string{"b", "a/b", "aa"} {
		expectDelete(t, a, path, 0, api.ErrMissing)
		expectDelete(t, a, path, 1, api.ErrMissing)
	}
	for _, path := range noPaths {
		expectDelete(t, a, path, 0, api.ErrPath)
		expectDelete(t, a, path, 1, api.ErrPath)
	}
	expectVersions(t, a, "a", 1, 3)
}

// P8: a version that a tag holds, or two; and one whose last tag was let go.
func TestDeleteOfHeld(t *testing.T) {
	d := api.NewDevice(400)
	a := opened(t, d, plenty)
	withVersions(t, a, "a", 3)
	withVersions(t, a, "b", 3)
	expectTag(t, a, "t", "a", 3, api.OK)
	expectTag(t, a, "u", "a", 3, api.OK)
	expectTag(t, a, "v", "b", 1, api.OK)
	for range 2 {
		expectDelete(t, a, "a", 3, api.ErrPinned)
		expectDelete(t, a, "a", 0, api.ErrPinned)
		expectDelete(t, a, "b", 1, api.ErrPinned)
		a = reopened(t, a, d, plenty)
	}
	expectDelete(t, a, "a", 1, api.OK)
	expectDelete(t, a, "b", 3, api.OK)
	expectUntag(t, a, "t", api.OK)
	expectDelete(t, a, "a", 3, api.ErrPinned)
	expectUntag(t, a, "u", api.OK)
	expectDelete(t, a, "a", 3, api.OK)
	expectDelete(t, a, "b", 1, api.ErrPinned)
	expectVersions(t, a, "a", 2)
	expectVersions(t, a, "b", 1, 2)
}

// P5, P8: the number of a Put behind a Delete is that of the latest version that is there, and 1.
func TestPutBehindDelete(t *testing.T) {
	d := api.NewDevice(400)
	a := opened(t, d, plenty)
	withVersions(t, a, "a", 4)
	expectDelete(t, a, "a", 2, api.OK)
	expectPut(t, a, "a", []byte("x"), 5)
	expectDelete(t, a, "a", 5, api.OK)
	expectDelete(t, a, "a", 4, api.OK)
	expectPut(t, a, "a", []byte("y"), 4)
	expectGet(t, a, "a", 4, []byte("y"))
	expectVersions(t, a, "a", 1, 3, 4)
	expectPrune(t, a, "a", 0, 3)
	expectPut(t, a, "a", []byte("z"), 1)
	for range 2 {
		expectVersions(t, a, "a", 1)
		expectGet(t, a, "a", 0, []byte("z"))
		expectList(t, a, "", api.Entry{Path: "a", Latest: 1, Size: 1, Versions: 1})
		a = reopened(t, a, d, plenty)
	}
}

// P8: a path without versions is as one that never was.
func TestPathWithoutVersions(t *testing.T) {
	for what, empty := range map[string]func(a *versions.Archive) error{
		"Delete": func(a *versions.Archive) error { return a.Delete("a", 1) },
		"Prune":  func(a *versions.Archive) error { _, err := a.Prune("a", 0); return err },
	} {
		d := api.NewDevice(100)
		a := opened(t, d, plenty)
		withVersions(t, a, "a", 1)
		expectError(t, what, empty(a), api.OK)
		for range 2 {
			expectList(t, a, "")
			expectMissing(t, a, "a")
			expectNoGet(t, a, "a", 0, api.ErrMissing)
			expectNoGet(t, a, "a", 1, api.ErrMissing)
			expectNoRead(t, a, "a", 0, -1, 0, api.ErrMissing)
			expectDelete(t, a, "a", 0, api.ErrMissing)
			expectNoPrune(t, a, "a", 0, api.ErrMissing)
			expectTag(t, a, "t", "a", 0, api.ErrMissing)
			a = reopened(t, a, d, plenty)
		}
		withVersions(t, a, "a", 2)
		expectVersions(t, a, "a", 1, 2)
	}
}

// P8: how many are kept: below 0, none, some, just as many as there are, and more.
func TestPrune(t *testing.T) {
	for _, keep := range []int{math.MinInt, -3, -1, 0, 1, 2, 4, 5, 6, 100, 1 << 32, math.MaxInt} {
		d := api.NewDevice(400)
		a := opened(t, d, plenty)
		withVersions(t, a, "a", 5)
		withVersions(t, a, "b", 2)
		left := min(max(keep, 0), 5)
		expectPrune(t, a, "a", keep, 5-left)
		for range 2 {
			if left == 0 {
				expectNoPrune(t, a, "a", keep, api.ErrMissing)
			} else {
				expectVersions(t, a, "a", []int{1, 2, 3, 4, 5}[5-left:]...)
				expectPrune(t, a, "a", keep, 0)
				expectGet(t, a, "a", 0, append(noise(1, 100), 4))
			}
			expectVersions(t, a, "b", 1, 2)
			a = reopened(t, a, d, plenty)
		}
	}
}

// P8: those that a tag holds are left, and are not counted as kept.
func TestPruneOfHeld(t *testing.T) {
	for _, ask := range []struct {
		keep int
		left []int
	}{
		{0, []int{2, 4}}, {1, []int{2, 4, 6}}, {2, []int{2, 4, 5, 6}}, {3, []int{2, 4, 5, 6}}, {5, []int{2, 3, 4, 5, 6}}, {6, []int{1, 2, 3, 4, 5, 6}},
	} {
		d := api.NewDevice(400)
		a := opened(t, d, plenty)
		withVersions(t, a, "a", 6)
		expectTag(t, a, "t", "a", 4, api.OK)
		expectTag(t, a, "u", "a", 4, api.OK)
		expectTag(t, a, "v", "a", 2, api.OK)
		expectPrune(t, a, "a", ask.keep, 6-len(ask.left))
		expectVersions(t, a, "a", ask.left...)
		expectPrune(t, a, "a", len(ask.left), 0)
		a = reopened(t, a, d, plenty)
		expectVersions(t, a, "a", ask.left...)
		expectUntag(t, a, "u", api.OK)
		expectUntag(t, a, "v", api.OK)
		expectPrune(t, a, "a", 0, len(ask.left)-1)
		expectVersions(t, a, "a", 4)
		expectPrune(t, a, "a", 0, 0)
		expectUntag(t, a, "t", api.OK)
		expectPrune(t, a, "a", 0, 1)
		expectMissing(t, a, "a")
	}
}

// P8: numbers that are not without gaps; it is how many that counts.
func TestPruneWithGaps(t *testing.T) {
	a := fresh(t)
	withVersions(t, a, "a", 9)
	for _, n := range []int{2, 3, 5, 8} {
		expectDelete(t, a, "a", n, api.OK)
	}
	expectVersions(t, a, "a", 1, 4, 6, 7, 9)
	expectPrune(t, a, "a", 3, 2)
	expectVersions(t, a, "a", 6, 7, 9)
}

func TestPruneOfNone(t *testing.T) {
	a := fresh(t)
	withVersions(t, a, "a", 1)
	for _, keep := range []int{-1, 0, 1, math.MaxInt} {
		for _, path := range []string{"b", "a/b", "aa"} {
			expectNoPrune(t, a, path, keep, api.ErrMissing)
		}
		for _, path := range noPaths {
			expectNoPrune(t, a, path, keep, api.ErrPath)
		}
	}
	expectVersions(t, a, "a", 1)
}

// P5, P8: the bytes of what was deleted may be put again.
func TestQuotaBehindDelete(t *testing.T) {
	d := api.NewDevice(400)
	a := opened(t, d, 100)
	for i := range 5 {
		expectPut(t, a, "a", noise(1, 20), i+1)
	}
	expectNoPut(t, a, "b", []byte("x"), api.ErrQuota)
	expectDelete(t, a, "a", 3, api.OK)
	expectNoPut(t, a, "b", noise(2, 21), api.ErrQuota)
	expectPut(t, a, "b", noise(2, 20), 1)
	expectNoPut(t, a, "b", []byte("x"), api.ErrQuota)
	expectPrune(t, a, "a", 1, 3)
	a = reopened(t, a, d, 100)
	expectNoPut(t, a, "b", noise(2, 61), api.ErrQuota)
	expectPut(t, a, "b", noise(2, 60), 2)
	collected(t, a)
	expectNoPut(t, a, "b", []byte("x"), api.ErrQuota)
	expectDelete(t, a, "a", 0, api.OK)
	expectPut(t, a, "b", noise(2, 20), 3)
}
