package catalog

import (
	"iter"
	"slices"

	"versions/api"
	"versions/pack"
	"versions/record"
	"versions/store"
)

// chunk tells where the record of a chunk stands, and how many bytes the chunk has.
type chunk struct {
	at    store.Span
	sum   pack.Sum
	bytes int
}

// piece is where the chunk itself is: at the end of its record.
func (k *chunk) piece() store.Span { return store.Span{Place: k.at.End() - k.bytes, Size: k.bytes} }

// SumOf is the sum by which a chunk is known.
func SumOf(chunk []byte) pack.Sum { return pack.SumOf(0, chunk) }

func (c *Catalog) addChunk(at store.Span, r record.Chunk) bool {
	if _, ok := c.chunks[r.ID]; ok || len(r.Data) == 0 || len(r.Data) > api.MaxChunk {
		return false
	}
	sum := SumOf(r.Data)
	c.chunks[r.ID] = &chunk{at, sum, len(r.Data)}
	c.known[sum] = append(c.known[sum], r.ID)
	return true
}

// removeChunk takes away a chunk that is there.
func (c *Catalog) removeChunk(id uint32) {
	c.forget(id)
	delete(c.chunks, id)
}

// FreeChunk is the first number from that one on that no chunk has.
func (c *Catalog) FreeChunk(from uint32) uint32 {
	for c.chunks[from] != nil {
		from++
	}
	return from
}

// Known goes through all chunks with that sum: their numbers, and where they are.
func (c *Catalog) Known(sum pack.Sum) iter.Seq2[uint32, store.Span] {
	return func(yield func(uint32, store.Span) bool) {
		for _, id := range c.known[sum] {
			if !yield(id, c.chunks[id].piece()) {
				return
			}
		}
	}
}

// Pieces goes through the chunks of a version: where they are.
func (c *Catalog) Pieces(v *Version) iter.Seq[store.Span] {
	return func(yield func(store.Span) bool) {
		for _, id := range v.chunks {
			if !yield(c.chunks[id].piece()) {
				return
			}
		}
	}
}

// Stored tells how many chunks are known, and their bytes together.
func (c *Catalog) Stored() api.Stored {
	var all api.Stored
	for _, ids := range c.known {
		for _, id := range ids {
			all.Chunks++
			all.Bytes += c.chunks[id].bytes
		}
	}
	return all
}

// isKnown tells whether new versions may have a chunk.
func (c *Catalog) isKnown(id uint32) bool { return slices.Contains(c.known[c.chunks[id].sum], id) }

// Forget forgets the chunks that no version has: then no version can get them any more.
func (c *Catalog) Forget() {
	for id := range c.unused() {
		c.forget(id)
	}
}

func (c *Catalog) forget(id uint32) {
	sum := c.chunks[id].sum
	left := slices.DeleteFunc(c.known[sum], func(k uint32) bool { return k == id })
	if len(left) == 0 {
		delete(c.known, sum)
	} else {
		c.known[sum] = left
	}
}

// unused goes through the chunks that no version has.
func (c *Catalog) unused() iter.Seq2[uint32, *chunk] {
	used := map[uint32]struct{}{}
	for _, list := range c.files {
		for _, v := range list {
			for _, id := range v.chunks {
				used[id] = struct{}{}
			}
		}
	}
	return func(yield func(uint32, *chunk) bool) {
		for id, k := range c.chunks {
			if _, ok := used[id]; !ok && !yield(id, k) {
				return
			}
		}
	}
}
