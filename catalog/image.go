package catalog

import (
	"maps"
	"slices"

	"versions/api"
	"versions/record"
)

// Image is a change that makes all that there is anew, in an empty catalog, with these chunks and no others. read fills a piece of memory with what stands at a place.
func (c *Catalog) Image(chunks []uint32, read func(place int, into []byte) error) ([]byte, error) {
	var change []byte
	var data [api.MaxChunk]byte
	for _, id := range chunks {
		piece := c.pieces[id]
		if err := read(piece.Place, data[:piece.Size]); err != nil {
			return nil, err
		}
		change = record.AppendChunk(change, data[:piece.Size])
	}
	change = c.appendVersions(change, renumbered(chunks))
	for _, pin := range c.Tags() {
		change = record.AppendTag(change, pin.Tag, pin.Path, pin.Version)
	}
	return change, nil
}

// renumbered tells the new numbers of chunks, by their old ones: they are numbered as they come.
func renumbered(chunks []uint32) map[uint32]uint32 {
	numbers := make(map[uint32]uint32, len(chunks))
	for i, id := range chunks {
		numbers[id] = uint32(i)
	}
	return numbers
}

// appendVersions appends all versions, with the new numbers of their chunks.
func (c *Catalog) appendVersions(change []byte, numbers map[uint32]uint32) []byte {
	var ids []uint32
	for _, path := range slices.Sorted(maps.Keys(c.files)) {
		for _, v := range c.files[path] {
			ids = ids[:0]
			for _, id := range v.chunks {
				ids = append(ids, numbers[id])
			}
			change = record.AppendVersion(change, path, v.Number, ids)
		}
	}
	return change
}
