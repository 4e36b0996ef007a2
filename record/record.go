// Package record has the forms of what stands on the device: a change is some records, one behind the other.
package record

import (
	"iter"

	"versions/api"
	"versions/pack"
)

// kind tells what a record is.
type kind byte

const (
	// A change is filled up with bytes 0: so there is no record behind one of this kind.
	kindNone kind = iota
	kindChunk
	kindVersion
)

// Widths of numbers, in bytes.
const (
	kindWidth    = 1
	sizeWidth    = 2
	lengthWidth  = 1
	versionWidth = 4
	idWidth      = 4
	headSize     = kindWidth + sizeWidth
)

// Head is what each record begins with.
type Head struct {
	kind kind
	size int // how many bytes are behind the head
}

// Length is how many bytes the record has, with its head.
func (h Head) Length() int { return headSize + h.size }

// appendTo appends the head.
func (h Head) appendTo(b []byte) []byte {
	b = pack.Append(b, uint64(h.kind), kindWidth)
	return pack.Append(b, uint64(h.size), sizeWidth)
}

// Record is a record of any kind.
type Record interface{ Length() int }

// Chunk is a chunk that was not there before. Chunks are numbered from 0 on, as they come.
type Chunk struct {
	Head
	Data []byte
}

// Version is a version of a path, and the numbers of its chunks.
type Version struct {
	Head
	Path   string
	Number int
	Chunks []uint32
}

// AppendChunk appends a Chunk.
func AppendChunk(b, data []byte) []byte {
	b = Head{kindChunk, len(data)}.appendTo(b)
	return append(b, data...)
}

// AppendVersion appends a Version.
func AppendVersion(b []byte, path string, number int, chunks []uint32) []byte {
	b = Head{kindVersion, lengthWidth + len(path) + versionWidth + idWidth*len(chunks)}.appendTo(b)
	b = pack.Append(b, uint64(len(path)), lengthWidth)
	b = append(b, path...)
	b = pack.Append(b, uint64(number), versionWidth)
	for _, id := range chunks {
		b = pack.Append(b, uint64(id), idWidth)
	}
	return b
}

// All goes through the records of a change. A Chunk's data is a piece of the change. At an error it ends.
func All(change []byte) iter.Seq2[Record, error] {
	return func(yield func(Record, error) bool) {
		for rest := change; len(rest) > 0 && kind(rest[0]) != kindNone; {
			r, err := first(rest)
			if !yield(r, err) || err != nil {
				return
			}
			rest = rest[r.Length():]
		}
	}
}

// first is the first record of b.
func first(b []byte) (Record, error) {
	if len(b) < headSize {
		return nil, api.ErrCorrupt
	}
	h := Head{kind(b[0]), int(pack.Number(b[kindWidth:headSize]))}
	if len(b) < h.Length() {
		return nil, api.ErrCorrupt
	}
	body := b[headSize:h.Length()]
	switch h.kind {
	case kindChunk:
		return Chunk{h, body}, nil
	case kindVersion:
		return version(h, body)
	}
	return nil, api.ErrCorrupt
}

// version is the Version with that head.
func version(h Head, body []byte) (Record, error) {
	path, rest, ok := text(body)
	if !ok || len(rest) < versionWidth || (len(rest)-versionWidth)%idWidth != 0 {
		return nil, api.ErrCorrupt
	}
	v := Version{Head: h, Path: path, Number: int(pack.Number(rest[:versionWidth]))}
	for rest = rest[versionWidth:]; len(rest) > 0; rest = rest[idWidth:] {
		v.Chunks = append(v.Chunks, uint32(pack.Number(rest[:idWidth])))
	}
	return v, nil
}

// text takes a text from the beginning of b.
func text(b []byte) (string, []byte, bool) {
	if len(b) < lengthWidth {
		return "", nil, false
	}
	end := lengthWidth + int(b[0])
	if len(b) < end {
		return "", nil, false
	}
	return string(b[lengthWidth:end]), b[end:], true
}
