package catalog

import (
	"cmp"
	"math"
	"slices"
	"strings"

	"versions/api"
	"versions/record"
)

// MaxNumber is the greatest number that a version can have: the records have no room for more.
const MaxNumber = math.MaxInt32

// Version is a version of a path.
type Version struct {
	Number, Size int
	chunks       []uint32
	tags         int // how many hold it
}

// Held tells whether a tag holds the version.
func (v Version) Held() bool { return v.tags > 0 }

func (c *Catalog) addVersion(r record.Version) bool {
	size := 0
	for _, id := range r.Chunks {
		if id >= c.NextChunk() {
			return false
		}
		size += c.pieces[id].Size
	}
	if !IsPath(r.Path) || r.Number <= c.Latest(r.Path) || r.Number > MaxNumber || size > api.MaxContent {
		return false
	}
	c.files[r.Path] = append(c.files[r.Path], Version{Number: r.Number, Size: size, chunks: r.Chunks})
	c.bytes += size
	return true
}

func (c *Catalog) remove(r record.Delete) bool {
	v, ok := c.version(r.Path, r.Number)
	if !ok || v.Held() {
		return false
	}
	c.drop(r.Path, func(v Version) bool { return v.Number == r.Number })
	return true
}

func (c *Catalog) prune(r record.Prune) bool {
	old := c.old(r.Path, r.Keep)
	if len(old) == 0 {
		return false
	}
	last := old[len(old)-1].Number
	c.drop(r.Path, func(v Version) bool { return v.Number <= last && !v.Held() })
	return true
}

// drop takes away those versions of a path of which gone says so. A path without versions goes too: it is as one that never was.
func (c *Catalog) drop(path string, gone func(Version) bool) {
	left := slices.DeleteFunc(c.files[path], func(v Version) bool {
		if !gone(v) {
			return false
		}
		c.bytes -= v.Size
		return true
	})
	if len(left) == 0 {
		delete(c.files, path)
	} else {
		c.files[path] = left
	}
}

// old are all versions of a path but the latest ones, of which keep are kept.
func (c *Catalog) old(path string, keep int) []Version {
	list := c.files[path]
	return list[:len(list)-min(max(keep, 0), len(list))]
}

// Prunable is how many versions of a path go, if the latest ones are kept, and those that tags hold.
func (c *Catalog) Prunable(path string, keep int) (int, error) {
	if c.Latest(path) == 0 {
		return 0, api.ErrMissing
	}
	n := 0
	for _, v := range c.old(path, keep) {
		if !v.Held() {
			n++
		}
	}
	return n, nil
}

// Bytes is how many bytes all versions together have.
func (c *Catalog) Bytes() int { return c.bytes }

// Latest is the number of a path's latest version; 0, if there is none.
func (c *Catalog) Latest(path string) int {
	list := c.files[path]
	if len(list) == 0 {
		return 0
	}
	return list[len(list)-1].Number
}

// Find finds a version of a path; 0 stands for the latest one.
func (c *Catalog) Find(path string, number int) (Version, error) {
	switch number {
	case 0:
		number = c.Latest(path)
		fallthrough
	default:
		v, ok := c.version(path, number)
		if !ok {
			return Version{}, api.ErrMissing
		}
		return *v, nil
	}
}

// version finds the version of that very number.
func (c *Catalog) version(path string, number int) (*Version, bool) {
	list := c.files[path]
	i, ok := slices.BinarySearchFunc(list, number, func(v Version, n int) int { return cmp.Compare(v.Number, n) })
	if !ok {
		return nil, false
	}
	return &list[i], true
}

// Numbers are the numbers of a path's versions, rising.
func (c *Catalog) Numbers(path string) ([]int, error) {
	var numbers []int
	for _, v := range c.files[path] {
		numbers = append(numbers, v.Number)
	}
	if len(numbers) == 0 {
		return nil, api.ErrMissing
	}
	return numbers, nil
}

// List is all paths that begin with the prefix, in the order of their bytes.
func (c *Catalog) List(prefix string) []api.Entry {
	var entries []api.Entry
	for path, list := range c.files {
		if !strings.HasPrefix(path, prefix) {
			continue
		}
		latest := list[len(list)-1]
		entries = append(entries, api.Entry{Path: path, Latest: latest.Number, Size: latest.Size, Versions: len(list)})
	}
	slices.SortFunc(entries, func(a, b api.Entry) int { return cmp.Compare(a.Path, b.Path) })
	return entries
}
