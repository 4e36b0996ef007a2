package catalog

import (
	"bytes"
	"errors"
	"slices"
	"strings"
	"testing"

	"versions/api"
	"versions/record"
)

func chunkOf(n int) []byte { return bytes.Repeat([]byte{7}, n) }

// made is a catalog that has taken in these changes, from place 1000 on.
func made(t *testing.T, changes ...[]byte) *Catalog {
	t.Helper()
	c := New()
	for _, change := range changes {
		if err := c.Apply(1000, change); err != nil {
			t.Fatal(err)
		}
	}
	return c
}

func TestApply(t *testing.T) {
	change := record.AppendChunk(nil, []byte("abc"))
	change = record.AppendChunk(change, []byte("de"))
	change = record.AppendVersion(change, "p", 1, []uint32{1, 0, 1})
	change = record.AppendVersion(change, "p", 4, nil)
	c := made(t, append(change, 0, 0))
	v, err := c.Find("p", 1)
	if err != nil || v.Number != 1 || v.Size != 7 {
		t.Fatalf("%v, %v", v, err)
	}
	want := []Piece{{1009, 2}, {1003, 3}, {1009, 2}}
	if got := slices.Collect(c.Pieces(v)); !slices.Equal(got, want) {
		t.Errorf("pieces %v, want %v", got, want)
	}
	if c.Latest("p") != 4 || c.Bytes() != 7 || c.NextChunk() != 2 {
		t.Errorf("latest %d, %d bytes, next chunk %d", c.Latest("p"), c.Bytes(), c.NextChunk())
	}
}

// Chunks with one sum are all found.
func TestKnown(t *testing.T) {
	change := record.AppendChunk(nil, []byte("same"))
	change = record.AppendChunk(change, []byte("other"))
	change = record.AppendChunk(change, []byte("same"))
	c := made(t, change)
	var ids []uint32
	for id, piece := range c.Known(SumOf([]byte("same"))) {
		if piece.Size != 4 {
			t.Errorf("a piece of %d bytes", piece.Size)
		}
		ids = append(ids, id)
	}
	if !slices.Equal(ids, []uint32{0, 2}) {
		t.Errorf("%v", ids)
	}
	for range c.Known(SumOf([]byte("none"))) {
		t.Error("a chunk that is not there is known")
	}
}

func TestFind(t *testing.T) {
	change := record.AppendVersion(nil, "p", 2, nil)
	change = record.AppendVersion(change, "p", 5, nil)
	c := made(t, change)
	for _, ask := range []struct{ number, want int }{{0, 5}, {2, 2}, {5, 5}} {
		if v, err := c.Find("p", ask.number); err != nil || v.Number != ask.want {
			t.Errorf("version %d: %v, %v", ask.number, v, err)
		}
	}
	for _, number := range []int{-1, 1, 3, 4, 6, 1 << 62, -1 << 63} {
		if _, err := c.Find("p", number); !errors.Is(err, api.ErrMissing) {
			t.Errorf("version %d: %v", number, err)
		}
	}
	for _, number := range []int{0, 1, -1} {
		if _, err := c.Find("q", number); !errors.Is(err, api.ErrMissing) {
			t.Errorf("no version, %d: %v", number, err)
		}
	}
}

// P1: records that are well formed, but that no archive wrote.
func TestApplyOfWhatCannotBe(t *testing.T) {
	version := func(path string, number int, chunks ...uint32) []byte {
		return record.AppendVersion(nil, path, number, chunks)
	}
	first := version("p", 3)
	long := record.AppendChunk(nil, chunkOf(api.MaxChunk))
	ids := make([]uint32, api.MaxContent/api.MaxChunk+1)
	for what, change := range map[string][]byte{
		"an empty chunk":              record.AppendChunk(nil, nil),
		"a chunk that is too long":    record.AppendChunk(nil, chunkOf(api.MaxChunk+1)),
		"a path that is none":         version("P", 1),
		"an empty path":               version("", 1),
		"a path that is too long":     version(strings.Repeat("a", 21), 1),
		"the number 0":                version("p", 0),
		"a number twice":              append(bytes.Clone(first), first...),
		"a number that falls":         append(bytes.Clone(first), version("p", 2)...),
		"a number that is too great":  version("p", 1<<31),
		"a chunk that is not there":   version("p", 1, 0),
		"a chunk far beyond":          version("p", 1, 1<<32-1),
		"a chunk that comes later":    append(version("p", 1, 0), long...),
		"a content that is too long":  append(long, version("p", 1, ids...)...),
		"a kind of record that isn't": {99, 0, 0},
		"no version to delete":        record.AppendDelete(nil, "p", 1),
		"another version to delete":   record.AppendDelete(bytes.Clone(first), "p", 2),
		"the version 0 to delete":     record.AppendDelete(bytes.Clone(first), "p", 0),
		"a held version to delete":    record.AppendDelete(record.AppendTag(bytes.Clone(first), "t", "p", 3), "p", 3),
		"no version to prune":         record.AppendPrune(nil, "p", 0),
		"no old version to prune":     record.AppendPrune(bytes.Clone(first), "p", 1),
		"no version to tag":           record.AppendTag(nil, "t", "p", 1),
		"another version to tag":      record.AppendTag(bytes.Clone(first), "t", "p", 2),
		"the version 0 to tag":        record.AppendTag(bytes.Clone(first), "t", "p", 0),
		"a name that is none":         record.AppendTag(bytes.Clone(first), "T", "p", 3),
		"a tag twice":                 record.AppendTag(record.AppendTag(bytes.Clone(first), "t", "p", 3), "t", "p", 3),
		"no tag to let go":            record.AppendUntag(bytes.Clone(first), "t"),
		"no name to let go":           record.AppendUntag(bytes.Clone(first), ""),
	} {
		if err := New().Apply(0, change); !errors.Is(err, api.ErrCorrupt) {
			t.Errorf("%s: %v", what, err)
		}
	}
}

func FuzzApply(f *testing.F) {
	change := record.AppendChunk(nil, []byte("abc"))
	change = record.AppendVersion(change, "p", 1, []uint32{0, 0})
	f.Add(change)
	change = record.AppendVersion(change, "p", 2, nil)
	change = record.AppendTag(change, "t", "p", 1)
	change = record.AppendPrune(change, "p", 0)
	f.Add(change)
	f.Add(record.AppendDelete(record.AppendUntag(change, "t"), "p", 1))
	f.Fuzz(func(t *testing.T, change []byte) {
		c := New()
		if err := c.Apply(0, change); err != nil {
			return
		}
		for _, e := range c.List("") {
			v, err := c.Find(e.Path, 0)
			if err != nil || v.Number != e.Latest || v.Size != e.Size || v.Size > api.MaxContent || !IsPath(e.Path) {
				t.Errorf("%v: %v, %v", e, v, err)
			}
			for p := range c.Pieces(v) {
				if p.Place < 0 || p.Place+p.Size > len(change) {
					t.Errorf("%v: a piece outside, %v", e, p)
				}
			}
		}
		expectSameBehindImage(t, c, change)
	})
}
