// Package catalog knows what there is: which versions the paths have, which tags hold them, which chunks they have, and where these are. It has none of their bytes.
package catalog

import (
	"versions/api"
	"versions/pack"
	"versions/record"
)

// Catalog has all versions of all paths.
type Catalog struct {
	files  map[string][]Version // by their numbers, rising; no list is empty
	tags   map[string]api.Pin   // by their names
	pieces []Piece              // of the chunks, by their numbers
	known  map[pack.Sum][]uint32
	bytes  int // of all versions together
}

// New makes a catalog that has nothing.
func New() *Catalog {
	return &Catalog{files: map[string][]Version{}, tags: map[string]api.Pin{}, known: map[pack.Sum][]uint32{}}
}

// Apply takes in a change that stands at that place. At an error the catalog is of no use any more.
func (c *Catalog) Apply(place int, change []byte) error {
	for r, err := range record.All(change) {
		if err != nil {
			return err
		}
		if !c.take(place, r) {
			return api.ErrCorrupt
		}
		place += r.Length()
	}
	return nil
}

// take takes in a record that stands at that place. It tells whether there can be such a one.
func (c *Catalog) take(place int, r record.Record) bool {
	switch r := r.(type) {
	case record.Chunk:
		return c.addChunk(place+r.Length()-len(r.Data), r.Data)
	case record.Version:
		return c.addVersion(r)
	case record.Delete:
		return c.remove(r)
	case record.Prune:
		return c.prune(r)
	case record.Tag:
		return c.addTag(r)
	case record.Untag:
		return c.removeTag(r)
	}
	return false
}
