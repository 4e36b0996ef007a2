package versions_test

import (
	"fmt"
	"math"
	"slices"
	"strings"
	"testing"

	"versions/api"
)

// P9: a tag holds the version that it was given: 0 stands for the latest one of that time.
func TestTag(t *testing.T) {
	d := api.NewDevice(400)
	a := opened(t, d, plenty)
	expectTags(t, a)
	withVersions(t, a, "a", 2)
	expectTag(t, a, "latest", "a", 0, api.OK)
	expectTag(t, a, "b", "a", 1, api.OK)
	expectTag(t, a, "a", "a", 2, api.OK)
	expectPut(t, a, "a", []byte("x"), 3)
	expectTag(t, a, "z/z", "a", 0, api.OK)
	want := []api.Pin{{Tag: "a", Path: "a", Version: 2}, {Tag: "b", Path: "a", Version: 1}, {Tag: "latest", Path: "a", Version: 2}, {Tag: "z/z", Path: "a", Version: 3}}
	expectTags(t, a, want...)
	a = reopened(t, a, d, plenty)
	expectTags(t, a, want...)
	collected(t, a)
	expectTags(t, a, want...)
	expectTags(t, opened(t, d.Copy(), plenty), want...)
}

// P9: names as paths are, and none other; the longest ones too.
func TestTagByName(t *testing.T) {
	d := api.NewDevice(400)
	a := opened(t, d, plenty)
	long := strings.Repeat("z", api.MaxPath)
	withVersions(t, a, long, 1)
	names := []string{"-", "..", "0/1/2/3/4/5/6/7/8/9x", "_", "a", "a/b", long}
	var want []api.Pin
	for _, name := range names {
		expectTag(t, a, name, long, 1, api.OK)
		want = append(want, api.Pin{Tag: name, Path: long, Version: 1})
	}
	slices.SortFunc(want, func(x, y api.Pin) int { return strings.Compare(x.Tag, y.Tag) })
	for _, name := range noPaths {
		expectTag(t, a, name, long, 1, api.ErrPath)
		expectUntag(t, a, name, api.ErrPath)
	}
	expectTags(t, a, want...)
	expectTags(t, reopened(t, a, d, plenty), want...)
}

// P9: a tag's name may be a path's too: they have nothing to do with one another.
func TestTagNamedAsAPath(t *testing.T) {
	a := fresh(t)
	withVersions(t, a, "a", 1)
	withVersions(t, a, "b", 1)
	expectTag(t, a, "a", "b", 1, api.OK)
	expectDelete(t, a, "a", 1, api.OK)
	expectDelete(t, a, "b", 1, api.ErrPinned)
	expectTags(t, a, api.Pin{Tag: "a", Path: "b", Version: 1})
}

// P9: what Tag refuses, and which error goes first.
func TestTagErrorsInOrder(t *testing.T) {
	a := fresh(t)
	withVersions(t, a, "a", 2)
	expectTag(t, a, "t", "a", 1, api.OK)
	for _, none := range noPaths {
		for _, other := range []string{"t", "a", "none", ""} {
			for _, version := range []int{0, 1, 9, -1} {
				expectTag(t, a, none, other, version, api.ErrPath)
				expectTag(t, a, other, none, version, api.ErrPath)
			}
		}
	}
	for _, name := range []string{"t", "u"} {
		for _, version := range []int{3, -1, math.MinInt, math.MaxInt, 1<<32 + 1} {
			expectTag(t, a, name, "a", version, api.ErrMissing)
		}
		for _, version := range []int{0, 1, -1} {
			expectTag(t, a, name, "b", version, api.ErrMissing)
			expectTag(t, a, name, "t", version, api.ErrMissing)
		}
	}
	for _, version := range []int{0, 1, 2} {
		expectTag(t, a, "t", "a", version, api.ErrExists)
	}
	expectTags(t, a, api.Pin{Tag: "t", Path: "a", Version: 1})
	expectDelete(t, a, "a", 2, api.OK)
}

// P9: what Untag refuses; a name that was let go can be given again.
func TestUntag(t *testing.T) {
	d := api.NewDevice(400)
	a := opened(t, d, plenty)
	withVersions(t, a, "a", 2)
	expectUntag(t, a, "t", api.ErrMissing)
	expectUntag(t, a, "a", api.ErrMissing)
	expectTag(t, a, "t", "a", 1, api.OK)
	expectUntag(t, a, "tt", api.ErrMissing)
	expectUntag(t, a, "t", api.OK)
	expectUntag(t, a, "t", api.ErrMissing)
	expectTags(t, a)
	expectTag(t, a, "t", "a", 2, api.OK)
	a = reopened(t, a, d, plenty)
	expectTags(t, a, api.Pin{Tag: "t", Path: "a", Version: 2})
	expectDelete(t, a, "a", 2, api.ErrPinned)
	expectDelete(t, a, "a", 1, api.OK)
	expectUntag(t, a, "t", api.OK)
	a = reopened(t, a, d, plenty)
	expectTags(t, a)
	expectDelete(t, a, "a", 0, api.OK)
}

// P9: the order is that of the names' bytes, whatever order the tags were given in.
func TestTagsAreSorted(t *testing.T) {
	a := fresh(t)
	withVersions(t, a, "a", 1)
	for i := range 100 {
		expectTag(t, a, fmt.Sprint("t", i*37%100), "a", 1, api.OK)
	}
	for range 5 {
		pins, err := a.Tags()
		if err != nil || len(pins) != 100 || !slices.IsSortedFunc(pins, func(x, y api.Pin) int { return strings.Compare(x.Tag, y.Tag) }) {
			t.Fatalf("%v, %v", pins, err)
		}
	}
}
