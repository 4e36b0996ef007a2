package catalog

import (
	"iter"
	"slices"

	"versions/api"
	"versions/pack"
	"versions/record"
	"versions/store"
)

// chunk tells where the record of a chunk stands, and how many bytes the chunk has.
type chunk struct {
	at    store.Span
	sum   pack.Sum
	bytes int
	known bool // whether new versions may have it
}

// piece is where the chunk itself is: at the end of its record.
func (k *chunk) piece() store.Span { return store.Span{Place: k.at.End() - k.bytes, Size: k.bytes} }

// SumOf is the sum by which a chunk is known.
func SumOf(chunk []byte) pack.Sum { return pack.SumOf(0, chunk) }

func (c *Catalog) addChunk(at store.Span, r record.Chunk) bool {
	if _, ok := c.chunks[r.ID]; ok || len(r.Data) == 0 || len(r.Data) > api.MaxChunk {
		return false
	}
	sum := SumOf(r.Data)
	c.chunks[r.ID] = &chunk{at, sum, len(r.Data), true}
	c.known[sum] = append(c.known[sum], r.ID)
	c.lowest.chunk = c.FreeChunk(c.lowest.chunk)
	return true
}

// removeChunk takes away a chunk that is there. The lists of those that are known must be sifted then.
func (c *Catalog) removeChunk(id uint32) {
	delete(c.chunks, id)
	c.lowest.chunk = min(c.lowest.chunk, id)
}

// FreeChunk is the first number from that one on that no chunk has.
func (c *Catalog) FreeChunk(from uint32) uint32 {
	from = max(from, c.lowest.chunk)
	for c.chunks[from] != nil {
		from++
	}
	return from
}

// Known goes through all chunks with that sum: their numbers, and where they are.
func (c *Catalog) Known(sum pack.Sum) iter.Seq2[uint32, store.Span] {
	return func(yield func(uint32, store.Span) bool) {
		for _, id := range c.known[sum] {
			if !yield(id, c.chunks[id].piece()) {
				return
			}
		}
	}
}

// Pieces goes through the chunks of a version: where they are.
func (c *Catalog) Pieces(v *Version) iter.Seq[store.Span] {
	return func(yield func(store.Span) bool) {
		for _, id := range v.chunks {
			if !yield(c.chunks[id].piece()) {
				return
			}
		}
	}
}

// Stored tells how many chunks are known, and their bytes together.
func (c *Catalog) Stored() api.Stored {
	var all api.Stored
	for _, ids := range c.known {
		for _, id := range ids {
			all.Chunks++
			all.Bytes += c.chunks[id].bytes
		}
	}
	return all
}

// Forget forgets the chunks that no version has: then no version can get them any more.
func (c *Catalog) Forget() {
	for _, k := range c.unused() {
		k.known = false
	}
	c.sift()
}

// sift leaves just those chunks in the lists that are known yet.
func (c *Catalog) sift() {
	known := map[pack.Sum][]uint32{}
	for sum, ids := range c.known {
		left := slices.DeleteFunc(ids, func(id uint32) bool { return c.chunks[id] == nil || !c.chunks[id].known })
		if len(left) > 0 {
			known[sum] = left
		}
	}
	c.known = known
}

// unused goes through the chunks that no version has.
func (c *Catalog) unused() iter.Seq2[uint32, *chunk] {
	used := map[uint32]struct{}{}
	for _, list := range c.files {
		for _, v := range list {
			for _, id := range v.chunks {
				used[id] = struct{}{}
			}
		}
	}
	return func(yield func(uint32, *chunk) bool) {
		for id, k := range c.chunks {
			if _, ok := used[id]; !ok && !yield(id, k) {
				return
			}
		}
	}
}
