// Package record has the forms of what stands on the device: a change is some records, one behind the other.
package record

import (
	"iter"

	"versions/api"
	"versions/pack"
)

// kind tells what a record is.
type kind byte

const (
	// A change is filled up with bytes 0: so there is no record behind one of this kind.
	kindNone kind = iota
	kindChunk
	kindVersion
	kindDelete
	kindPrune
	kindTag
	kindUntag
)

// Widths of numbers, in bytes.
const (
	kindWidth   = 1
	sizeWidth   = 2
	lengthWidth = 1
	numberWidth = 4
	headSize    = kindWidth + sizeWidth
)

// Head is what each record begins with.
type Head struct {
	kind kind
	size int // how many bytes are behind the head
}

// Length is how many bytes the record has, with its head.
func (h Head) Length() int { return headSize + h.size }

// Record is a record of any kind.
type Record interface{ Length() int }

// Chunk is a chunk that was not there before. Chunks are numbered from 0 on, as they come.
type Chunk struct {
	Head
	Data []byte
}

// Version is a version of a path, and the numbers of its chunks.
type Version struct {
	Head
	Path   string
	Number int
	Chunks []uint32
}

// Delete is a version that is there no more.
type Delete struct {
	Head
	Path   string
	Number int
}

// Prune tells that of a path's versions just the latest ones are there yet, and those that tags hold.
type Prune struct {
	Head
	Path string
	Keep int
}

// Tag is a tag, and the version that it holds.
type Tag struct {
	Head
	Name, Path string
	Number     int
}

// Untag is a tag that is there no more.
type Untag struct {
	Head
	Name string
}

// AppendChunk appends a Chunk.
func AppendChunk(b, data []byte) []byte {
	b = appendHead(b, kindChunk, len(data))
	return append(b, data...)
}

// AppendVersion appends a Version.
func AppendVersion(b []byte, path string, number int, chunks []uint32) []byte {
	b = appendHead(b, kindVersion, textSize(path)+numberWidth+numberWidth*len(chunks))
	b = appendText(b, path)
	b = appendNumber(b, number)
	for _, id := range chunks {
		b = pack.Append(b, uint64(id), numberWidth)
	}
	return b
}

// AppendDelete appends a Delete.
func AppendDelete(b []byte, path string, number int) []byte {
	b = appendHead(b, kindDelete, textSize(path)+numberWidth)
	return appendNumber(appendText(b, path), number)
}

// AppendPrune appends a Prune.
func AppendPrune(b []byte, path string, keep int) []byte {
	b = appendHead(b, kindPrune, textSize(path)+numberWidth)
	return appendNumber(appendText(b, path), keep)
}

// AppendTag appends a Tag.
func AppendTag(b []byte, name, path string, number int) []byte {
	b = appendHead(b, kindTag, textSize(name)+textSize(path)+numberWidth)
	return appendNumber(appendText(appendText(b, name), path), number)
}

// AppendUntag appends an Untag.
func AppendUntag(b []byte, name string) []byte {
	return appendText(appendHead(b, kindUntag, textSize(name)), name)
}

func appendHead(b []byte, k kind, size int) []byte {
	return pack.Append(pack.Append(b, uint64(k), kindWidth), uint64(size), sizeWidth)
}

func appendText(b []byte, s string) []byte {
	return append(pack.Append(b, uint64(len(s)), lengthWidth), s...)
}

func appendNumber(b []byte, n int) []byte { return pack.Append(b, uint64(n), numberWidth) }

// textSize is how many bytes a text has in a record.
func textSize(s string) int { return lengthWidth + len(s) }

// All goes through the records of a change. A Chunk's data is a piece of the change; all else is fresh. At an error it ends.
func All(change []byte) iter.Seq2[Record, error] {
	return func(yield func(Record, error) bool) {
		for rest := change; len(rest) > 0 && kind(rest[0]) != kindNone; {
			r, err := first(rest)
			if !yield(r, err) || err != nil {
				return
			}
			rest = rest[r.Length():]
		}
	}
}

// first is the first record of b.
func first(b []byte) (Record, error) {
	if len(b) < headSize {
		return nil, api.ErrCorrupt
	}
	h := Head{kind(b[0]), int(pack.Number(b[kindWidth:headSize]))}
	if len(b) < h.Length() {
		return nil, api.ErrCorrupt
	}
	rest := body{rest: b[headSize:h.Length()]}
	r := recordOf(h, &rest)
	if r == nil || rest.short || len(rest.rest) > 0 {
		return nil, api.ErrCorrupt
	}
	return r, nil
}

// recordOf takes the record with that head from its body; nil, if there is none of that kind.
func recordOf(h Head, b *body) Record {
	switch h.kind {
	case kindChunk:
		return Chunk{h, b.take(h.size)}
	case kindVersion:
		return Version{h, b.text(), b.number(), b.numbers()}
	case kindDelete:
		return Delete{h, b.text(), b.number()}
	case kindPrune:
		return Prune{h, b.text(), b.number()}
	case kindTag:
		return Tag{h, b.text(), b.text(), b.number()}
	case kindUntag:
		return Untag{h, b.text()}
	}
	return nil
}
