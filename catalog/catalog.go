// Package catalog knows what there is: which versions the paths have, which tags hold them, which chunks they have, and where the records of all that stand. It has none of the chunks' bytes.
package catalog

import (
	"versions/api"
	"versions/pack"
	"versions/record"
	"versions/store"
)

// Catalog has all versions of all paths.
type Catalog struct {
	files    map[string][]*Version // by their numbers, rising; no list is empty
	tags     map[string]*Tag       // by their names
	chunks   map[uint32]*chunk     // by their numbers
	known    map[pack.Sum][]uint32 // those chunks that new versions may have
	ids      map[uint32]*Version   // by the numbers of their records; with those that are gone
	lowest   lowest
	prunes   []store.Span // where the records of prunes stand
	bytes    int          // of all versions together
	tagBytes int          // of all records of tags together
}

// lowest are numbers below which none is free. Without them each search for a free one would go through all that are not.
type lowest struct{ chunk, version uint32 }

// New makes a catalog that has nothing.
func New() *Catalog {
	return &Catalog{
		files:  map[string][]*Version{},
		tags:   map[string]*Tag{},
		chunks: map[uint32]*chunk{},
		known:  map[pack.Sum][]uint32{},
		ids:    map[uint32]*Version{},
	}
}

// Apply takes in records that stand at that place, behind all others. At an error the catalog is of no use any more.
func (c *Catalog) Apply(place int, records []byte) error {
	for r, err := range record.All(records) {
		if err != nil {
			return err
		}
		span := store.Span{Place: place, Size: r.Length()}
		if !c.take(span, r) {
			return api.ErrCorrupt
		}
		place = span.End()
	}
	return nil
}

// take takes in a record that stands there. It tells whether there can be such a one.
func (c *Catalog) take(at store.Span, r record.Record) bool {
	switch r := r.(type) {
	case record.Chunk:
		return c.addChunk(at, r)
	case record.Version:
		return c.addVersion(at, r)
	case record.Tag:
		return c.addTag(at, r)
	case record.Prune:
		return c.prune(at, r)
	}
	return false
}
