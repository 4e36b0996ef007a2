package catalog

import (
	"iter"
	"maps"
	"slices"

	"versions/api"
	"versions/pack"
)

// Piece tells where a chunk is, and how many bytes it has.
type Piece struct{ Place, Size int }

// SumOf is the sum by which a chunk is known.
func SumOf(chunk []byte) pack.Sum { return pack.SumOf(0, chunk) }

func (c *Catalog) addChunk(place int, data []byte) bool {
	if len(data) == 0 || len(data) > api.MaxChunk {
		return false
	}
	sum := SumOf(data)
	c.known[sum] = append(c.known[sum], c.NextChunk())
	c.pieces = append(c.pieces, Piece{place, len(data)})
	return true
}

// NextChunk is the number that the next chunk will have.
func (c *Catalog) NextChunk() uint32 { return uint32(len(c.pieces)) }

// Known goes through all chunks with that sum: their numbers, and where they are.
func (c *Catalog) Known(sum pack.Sum) iter.Seq2[uint32, Piece] {
	return func(yield func(uint32, Piece) bool) {
		for _, id := range c.known[sum] {
			if !yield(id, c.pieces[id]) {
				return
			}
		}
	}
}

// Pieces goes through the chunks of a version.
func (c *Catalog) Pieces(v Version) iter.Seq[Piece] {
	return func(yield func(Piece) bool) {
		for _, id := range v.chunks {
			if !yield(c.pieces[id]) {
				return
			}
		}
	}
}

// Stored tells how many chunks are known, and their bytes together.
func (c *Catalog) Stored() api.Stored {
	var all api.Stored
	for _, id := range c.Chunks() {
		all.Chunks++
		all.Bytes += c.pieces[id].Size
	}
	return all
}

// Chunks are the numbers of all chunks that are known, rising.
func (c *Catalog) Chunks() []uint32 {
	var ids []uint32
	for _, same := range c.known {
		ids = append(ids, same...)
	}
	slices.Sort(ids)
	return ids
}

// Live are the numbers of the chunks that versions have, rising.
func (c *Catalog) Live() []uint32 { return slices.Sorted(maps.Keys(c.live())) }

func (c *Catalog) live() map[uint32]struct{} {
	live := map[uint32]struct{}{}
	for _, list := range c.files {
		for _, v := range list {
			for _, id := range v.chunks {
				live[id] = struct{}{}
			}
		}
	}
	return live
}

// Forget forgets the chunks that no version has: then no version can get them any more.
func (c *Catalog) Forget() {
	live := c.live()
	for sum, ids := range c.known {
		ids = slices.DeleteFunc(ids, func(id uint32) bool {
			_, ok := live[id]
			return !ok
		})
		if len(ids) == 0 {
			delete(c.known, sum)
		} else {
			c.known[sum] = ids
		}
	}
}
