// Package record has the forms of what stands on the device: records, one behind the other.
package record

import (
	"iter"

	"versions/api"
	"versions/pack"
)

// kind tells what a record is.
type kind byte

const (
	kindChunk kind = iota
	kindVersion
	kindTag
	kindPrune
	kinds
)

// Head is what each record begins with: one short number.
type Head struct {
	kind kind
	size int // how many bytes are behind the head
}

// code is the number that the head is.
func (h Head) code() uint64 { return uint64(h.size)*uint64(kinds) + uint64(h.kind) }

// Length is how many bytes the record has, with its head.
func (h Head) Length() int { return pack.ShortSize(h.code()) + h.size }

// Record is a record of any kind.
type Record interface{ Length() int }

// Chunk is a chunk. No two that are there at the same time have the same number; so it is with versions.
type Chunk struct {
	Head
	ID   uint32
	Data []byte
}

// Version is a version of a path, and the numbers of its chunks.
type Version struct {
	Head
	ID     uint32
	Number int
	Chunks []uint32
	Path   string
}

// Tag is a tag, and the version that it holds.
type Tag struct {
	Head
	Version uint32
	Name    string
}

// Prune tells that of the versions of a path that stand ahead of it just the latest ones are there yet, and those that tags hold.
type Prune struct {
	Head
	Keep int
	Path string
}

// AppendChunk appends a Chunk.
func AppendChunk(b []byte, id uint32, data []byte) []byte {
	return appendRecord(b, kindChunk, append(short(id), data...))
}

// AppendVersion appends a Version.
func AppendVersion(b []byte, id uint32, path string, number int, chunks []uint32) []byte {
	body := pack.AppendShort(short(id), uint64(number))
	body = pack.AppendShort(body, uint64(len(chunks)))
	for _, c := range chunks {
		body = pack.AppendShort(body, uint64(c))
	}
	return appendRecord(b, kindVersion, appendText(body, path))
}

// AppendTag appends a Tag.
func AppendTag(b []byte, name string, version uint32) []byte {
	return appendRecord(b, kindTag, appendText(short(version), name))
}

// AppendPrune appends a Prune.
func AppendPrune(b []byte, path string, keep int) []byte {
	return appendRecord(b, kindPrune, appendText(pack.AppendShort(nil, uint64(keep)), path))
}

func short(id uint32) []byte { return pack.AppendShort(nil, uint64(id)) }

func appendRecord(b []byte, k kind, body []byte) []byte {
	return append(pack.AppendShort(b, Head{k, len(body)}.code()), body...)
}

// All goes through records. A Chunk's data is a piece of b; all else is fresh. At an error it ends.
func All(b []byte) iter.Seq2[Record, error] {
	return func(yield func(Record, error) bool) {
		for rest := b; len(rest) > 0; {
			r, err := first(rest)
			if !yield(r, err) || err != nil {
				return
			}
			rest = rest[r.Length():]
		}
	}
}

// first is the first record of b.
func first(b []byte) (Record, error) {
	code, n := pack.Short(b)
	size := code / uint64(kinds)
	// An int need not have room for a size that is too great.
	if n == 0 || size > uint64(len(b)-n) {
		return nil, api.ErrCorrupt
	}
	h := Head{kind(code % uint64(kinds)), int(size)}
	rest := body{rest: b[n:h.Length()]}
	r := recordOf(h, &rest)
	if r == nil || rest.wrong {
		return nil, api.ErrCorrupt
	}
	return r, nil
}

// recordOf takes the record with that head from its body; what comes last in it is all that is left.
func recordOf(h Head, b *body) Record {
	switch h.kind {
	case kindChunk:
		return Chunk{h, b.id(), b.rest}
	case kindVersion:
		return Version{h, b.id(), b.number(), b.ids(), b.text()}
	case kindTag:
		return Tag{h, b.id(), b.text()}
	case kindPrune:
		return Prune{h, b.number(), b.text()}
	}
	return nil
}
