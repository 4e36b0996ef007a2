package versions

import (
	"bytes"
	"slices"

	"versions/catalog"
	"versions/chunk"
	"versions/pack"
	"versions/record"
)

// fresh is a chunk of the draft's content that is not on the device yet.
type fresh struct {
	id   uint32
	data []byte
}

// draft is a version that is to be put.
type draft struct {
	archive *Archive
	change  []byte
	ids     []uint32 // of the content's chunks
	fresh   map[pack.Sum][]fresh
	next    uint32 // the number of the next fresh chunk
}

// draft makes the change that adds a version: its chunks that are not there, and the version itself. It is appended to a buffer, which is answered beside an error too.
func (a *Archive) draft(buffer []byte, path string, number int, content []byte) ([]byte, error) {
	d := draft{archive: a, change: buffer, fresh: map[pack.Sum][]fresh{}, next: a.catalog.NextChunk()}
	for c := range chunk.All(content) {
		if err := d.add(c); err != nil {
			return d.change, err
		}
	}
	return record.AppendVersion(d.change, path, number, d.ids), nil
}

// add adds a chunk to the version, and to the change, if it is in neither the device nor the change.
func (d *draft) add(data []byte) error {
	sum := catalog.SumOf(data)
	id, found, err := d.archive.stored(sum, data)
	if err != nil {
		return err
	}
	if !found {
		id = d.take(sum, data)
	}
	d.ids = append(d.ids, id)
	return nil
}

// take is the number of a fresh chunk: the same chunk may be in the content more than once.
func (d *draft) take(sum pack.Sum, data []byte) uint32 {
	for _, f := range d.fresh[sum] {
		if bytes.Equal(f.data, data) {
			return f.id
		}
	}
	f := fresh{d.next, data}
	d.next++
	d.fresh[sum] = append(d.fresh[sum], f)
	d.change = record.AppendChunk(d.change, data)
	return f.id
}

// stored finds a chunk on the device. Chunks with the same sum are told apart by their bytes.
func (a *Archive) stored(sum pack.Sum, data []byte) (uint32, bool, error) {
	buffer := a.spare.Take()
	defer func() { a.spare.Give(buffer) }()
	for id, piece := range a.catalog.Known(sum) {
		if piece.Size != len(data) {
			continue
		}
		buffer = slices.Grow(buffer[:0], piece.Size)[:piece.Size]
		if err := a.log.Read(piece.Place, buffer); err != nil {
			return 0, false, err
		}
		if bytes.Equal(buffer, data) {
			return id, true, nil
		}
	}
	return 0, false, nil
}
