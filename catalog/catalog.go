// Package catalog knows what there is: which versions the paths have, which chunks these have, and where the chunks are. It has none of their bytes.
package catalog

import (
	"cmp"
	"iter"
	"math"
	"slices"
	"strings"

	"versions/api"
	"versions/pack"
	"versions/record"
)

// MaxNumber is the greatest number that a version can have: the records have no room for more.
const MaxNumber = math.MaxInt32

// Version is a version of a path.
type Version struct {
	Number, Size int
	chunks       []uint32
}

// Piece tells where a chunk is, and how many bytes it has.
type Piece struct{ Place, Size int }

// Catalog has all versions of all paths.
type Catalog struct {
	files  map[string][]Version // by their numbers, rising; no list is empty
	pieces []Piece              // of the chunks, by their numbers
	known  map[pack.Sum][]uint32
	bytes  int // of all versions together
}

// New makes a catalog that has nothing.
func New() *Catalog {
	return &Catalog{files: map[string][]Version{}, known: map[pack.Sum][]uint32{}}
}

// SumOf is the sum by which a chunk is known.
func SumOf(chunk []byte) pack.Sum { return pack.SumOf(0, chunk) }

// Apply takes in a change that stands at that place. At an error the catalog is of no use any more.
func (c *Catalog) Apply(place int, change []byte) error {
	for r, err := range record.All(change) {
		if err != nil {
			return err
		}
		if err := c.take(place, r); err != nil {
			return err
		}
		place += r.Length()
	}
	return nil
}

// take takes in a record that stands at that place.
func (c *Catalog) take(place int, r record.Record) error {
	switch r := r.(type) {
	case record.Chunk:
		return c.addChunk(place+r.Length()-len(r.Data), r.Data)
	case record.Version:
		return c.addVersion(r)
	}
	return api.ErrCorrupt
}

func (c *Catalog) addChunk(place int, data []byte) error {
	if len(data) == 0 || len(data) > api.MaxChunk {
		return api.ErrCorrupt
	}
	sum := SumOf(data)
	c.known[sum] = append(c.known[sum], c.NextChunk())
	c.pieces = append(c.pieces, Piece{place, len(data)})
	return nil
}

func (c *Catalog) addVersion(r record.Version) error {
	size := 0
	for _, id := range r.Chunks {
		if id >= c.NextChunk() {
			return api.ErrCorrupt
		}
		size += c.pieces[id].Size
	}
	if !IsPath(r.Path) || r.Number <= c.Latest(r.Path) || r.Number > MaxNumber || size > api.MaxContent {
		return api.ErrCorrupt
	}
	c.files[r.Path] = append(c.files[r.Path], Version{r.Number, size, r.Chunks})
	c.bytes += size
	return nil
}

// NextChunk is the number that the next chunk will have.
func (c *Catalog) NextChunk() uint32 { return uint32(len(c.pieces)) }

// Known goes through all chunks with that sum: their numbers, and where they are.
func (c *Catalog) Known(sum pack.Sum) iter.Seq2[uint32, Piece] {
	return func(yield func(uint32, Piece) bool) {
		for _, id := range c.known[sum] {
			if !yield(id, c.pieces[id]) {
				return
			}
		}
	}
}

// Pieces goes through the chunks of a version.
func (c *Catalog) Pieces(v Version) iter.Seq[Piece] {
	return func(yield func(Piece) bool) {
		for _, id := range v.chunks {
			if !yield(c.pieces[id]) {
				return
			}
		}
	}
}

// Bytes is how many bytes all versions together have.
func (c *Catalog) Bytes() int { return c.bytes }

// Latest is the number of a path's latest version; 0, if there is none.
func (c *Catalog) Latest(path string) int {
	list := c.files[path]
	if len(list) == 0 {
		return 0
	}
	return list[len(list)-1].Number
}

// Find finds a version of a path; 0 stands for the latest one.
func (c *Catalog) Find(path string, number int) (Version, error) {
	list := c.files[path]
	switch {
	case len(list) == 0:
		return Version{}, api.ErrMissing
	case number == 0:
		number = c.Latest(path)
		fallthrough
	default:
		i, ok := slices.BinarySearchFunc(list, number, func(v Version, n int) int { return cmp.Compare(v.Number, n) })
		if !ok {
			return Version{}, api.ErrMissing
		}
		return list[i], nil
	}
}

// Numbers are the numbers of a path's versions, rising.
func (c *Catalog) Numbers(path string) ([]int, error) {
	var numbers []int
	for _, v := range c.files[path] {
		numbers = append(numbers, v.Number)
	}
	if len(numbers) == 0 {
		return nil, api.ErrMissing
	}
	return numbers, nil
}

// List is all paths that begin with the prefix, in the order of their bytes.
func (c *Catalog) List(prefix string) []api.Entry {
	var entries []api.Entry
	for path, list := range c.files {
		if !strings.HasPrefix(path, prefix) {
			continue
		}
		latest := list[len(list)-1]
		entries = append(entries, api.Entry{Path: path, Latest: latest.Number, Size: latest.Size, Versions: len(list)})
	}
	slices.SortFunc(entries, func(a, b api.Entry) int { return cmp.Compare(a.Path, b.Path) })
	return entries
}
