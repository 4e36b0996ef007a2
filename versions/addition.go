package versions

import (
	"bytes"
	"slices"

	"versions/catalog"
	"versions/chunk"
	"versions/pack"
	"versions/record"
)

// fresh is a chunk of the content that is not on the device yet.
type fresh struct {
	id   uint32
	data []byte
}

// addition is a version that is to be put.
type addition struct {
	archive *Archive
	change  []byte
	ids     []uint32 // of the content's chunks
	fresh   map[pack.Sum][]fresh
	next    uint32 // the first number that the next fresh chunk may have
}

// adding drafts the change that adds a version: its chunks that are not there, and the version itself.
func (a *Archive) adding(path string, content []byte) draft {
	return func(buffer []byte) ([]byte, error) {
		number, err := a.catalog.Next(path)
		if err != nil {
			return buffer, err
		}
		n := addition{archive: a, change: buffer, fresh: map[pack.Sum][]fresh{}}
		for c := range chunk.All(content) {
			if err := n.add(c); err != nil {
				return n.change, err
			}
		}
		return record.AppendVersion(n.change, a.catalog.FreeVersion(), path, number, n.ids), nil
	}
}

// add adds a chunk to the version, and to the change, if it is in neither the device nor the change.
func (n *addition) add(data []byte) error {
	sum := catalog.SumOf(data)
	id, found, err := n.archive.stored(sum, data)
	if err != nil {
		return err
	}
	if !found {
		id = n.take(sum, data)
	}
	n.ids = append(n.ids, id)
	return nil
}

// take is the number of a fresh chunk: the same chunk may be in the content more than once.
func (n *addition) take(sum pack.Sum, data []byte) uint32 {
	for _, f := range n.fresh[sum] {
		if bytes.Equal(f.data, data) {
			return f.id
		}
	}
	f := fresh{n.archive.catalog.FreeChunk(n.next), data}
	n.next = f.id + 1
	n.fresh[sum] = append(n.fresh[sum], f)
	n.change = record.AppendChunk(n.change, f.id, data)
	return f.id
}

// stored finds a chunk on the device. Chunks with the same sum are told apart by their bytes.
func (a *Archive) stored(sum pack.Sum, data []byte) (uint32, bool, error) {
	buffer := a.spare.Take()
	defer func() { a.spare.Give(buffer) }()
	for id, piece := range a.catalog.Known(sum) {
		if piece.Size != len(data) {
			continue
		}
		buffer = slices.Grow(buffer[:0], piece.Size)[:piece.Size]
		if err := a.store.Read(piece.Place, buffer); err != nil {
			return 0, false, err
		}
		if bytes.Equal(buffer, data) {
			return id, true, nil
		}
	}
	return 0, false, nil
}
