package catalog

import (
	"cmp"
	"math"
	"slices"
	"strings"

	"versions/api"
	"versions/record"
	"versions/store"
)

// Version is a version of a path.
type Version struct {
	At           store.Span // where its record stands now
	ID           uint32     // the record's number
	Number, Size int
	path         string
	chunks       []uint32
	tags         int  // how many hold it
	gone         bool // whether just the record is there yet
}

// Held tells whether a tag holds the version.
func (v *Version) Held() bool { return v.tags > 0 }

func (c *Catalog) addVersion(at store.Span, r record.Version) bool {
	size := 0
	for _, id := range r.Chunks {
		k, ok := c.chunks[id]
		if !ok {
			return false
		}
		size += k.bytes
	}
	if !IsPath(r.Path) || c.ids[r.ID] != nil || r.Number <= c.Latest(r.Path) || size > api.MaxContent {
		return false
	}
	v := &Version{At: at, ID: r.ID, Number: r.Number, Size: size, path: r.Path, chunks: r.Chunks}
	c.files[r.Path] = append(c.files[r.Path], v)
	c.ids[r.ID] = v
	c.bytes += size
	for c.ids[c.lowest.version] != nil {
		c.lowest.version++
	}
	return true
}

// removeVersion takes away a version whose record is there.
func (c *Catalog) removeVersion(id uint32) {
	c.drop(c.ids[id])
	delete(c.ids, id)
	c.lowest.version = min(c.lowest.version, id)
}

// FreeVersion is the first number that no version's record has.
func (c *Catalog) FreeVersion() uint32 { return c.lowest.version }

// prune drops old versions. Their records are there yet.
func (c *Catalog) prune(at store.Span, r record.Prune) bool {
	for _, v := range c.Prunable(r.Path, r.Keep) {
		c.drop(v)
	}
	c.prunes = append(c.prunes, at)
	return true
}

// drop takes a version away from its path. A path without versions goes too: it is as one that never was.
func (c *Catalog) drop(v *Version) {
	if v.gone {
		return
	}
	v.gone = true
	c.bytes -= v.Size
	left := slices.DeleteFunc(c.files[v.path], func(other *Version) bool { return other == v })
	if len(left) == 0 {
		delete(c.files, v.path)
	} else {
		c.files[v.path] = left
	}
}

// Prunable are those versions of a path that go, if the latest ones are kept, and those that tags hold.
func (c *Catalog) Prunable(path string, keep int) []*Version {
	list := c.files[path]
	var old []*Version
	for _, v := range list[:len(list)-min(max(keep, 0), len(list))] {
		if !v.Held() {
			old = append(old, v)
		}
	}
	return old
}

// Bytes is how many bytes all versions together have.
func (c *Catalog) Bytes() int { return c.bytes }

// Versions is how many there are.
func (c *Catalog) Versions() int {
	n := 0
	for _, list := range c.files {
		n += len(list)
	}
	return n
}

// Latest is the number of a path's latest version; 0, if there is none.
func (c *Catalog) Latest(path string) int {
	list := c.files[path]
	if len(list) == 0 {
		return 0
	}
	return list[len(list)-1].Number
}

// Next is the number of a path's next version. Behind the greatest int there is none; but so many versions no archive can have put: what is there is not what was written.
func (c *Catalog) Next(path string) (int, error) {
	latest := c.Latest(path)
	if latest == math.MaxInt {
		return 0, api.ErrCorrupt
	}
	return latest + 1, nil
}

// Find finds a version of a path; 0 stands for the latest one.
func (c *Catalog) Find(path string, number int) (*Version, error) {
	list := c.files[path]
	switch number {
	case 0:
		number = c.Latest(path)
		fallthrough
	default:
		i, ok := slices.BinarySearchFunc(list, number, func(v *Version, n int) int { return cmp.Compare(v.Number, n) })
		if !ok {
			return nil, api.ErrMissing
		}
		return list[i], nil
	}
}

// Numbers are the numbers of a path's versions, rising.
func (c *Catalog) Numbers(path string) ([]int, error) {
	var numbers []int
	for _, v := range c.files[path] {
		numbers = append(numbers, v.Number)
	}
	if len(numbers) == 0 {
		return nil, api.ErrMissing
	}
	return numbers, nil
}

// List is all paths that begin with the prefix, in the order of their bytes.
func (c *Catalog) List(prefix string) []api.Entry {
	var entries []api.Entry
	for path, list := range c.files {
		if !strings.HasPrefix(path, prefix) {
			continue
		}
		latest := list[len(list)-1]
		entries = append(entries, api.Entry{Path: path, Latest: latest.Number, Size: latest.Size, Versions: len(list)})
	}
	slices.SortFunc(entries, func(a, b api.Entry) int { return cmp.Compare(a.Path, b.Path) })
	return entries
}
