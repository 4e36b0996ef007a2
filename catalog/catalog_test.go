package catalog

import (
	"bytes"
	"errors"
	"math"
	"slices"
	"strings"
	"testing"

	"versions/api"
	"versions/record"
	"versions/store"
)

func chunkOf(n int) []byte { return bytes.Repeat([]byte{7}, n) }

// made is a catalog that has taken in records, from place 1000 on.
func made(t *testing.T, records []byte) *Catalog {
	t.Helper()
	c := New()
	if err := c.Apply(1000, records); err != nil {
		t.Fatal(err)
	}
	return c
}

// applied takes in records more, behind those that were handed in first.
func applied(t *testing.T, c *Catalog, place int, records []byte) {
	t.Helper()
	if err := c.Apply(place, records); err != nil {
		t.Fatal(err)
	}
}

func TestApply(t *testing.T) {
	records := record.AppendChunk(nil, 5, []byte("abc"))
	records = record.AppendChunk(records, 0, []byte("de"))
	records = record.AppendVersion(records, 9, "p", 1, []uint32{0, 5, 0})
	records = record.AppendVersion(records, 0, "p", 4, nil)
	c := made(t, records)
	v, err := c.Find("p", 1)
	if err != nil || v.Number != 1 || v.Size != 7 || v.ID != 9 || v.At != (store.Span{Place: 1009, Size: 8}) {
		t.Fatalf("%v, %v", v, err)
	}
	want := []store.Span{{Place: 1007, Size: 2}, {Place: 1002, Size: 3}, {Place: 1007, Size: 2}}
	if got := slices.Collect(c.Pieces(v)); !slices.Equal(got, want) {
		t.Errorf("pieces %v, want %v", got, want)
	}
	if c.Latest("p") != 4 || c.Bytes() != 7 || c.Versions() != 2 {
		t.Errorf("latest %d, %d bytes, %d versions", c.Latest("p"), c.Bytes(), c.Versions())
	}
	if c.FreeVersion() != 1 || c.FreeChunk(0) != 1 || c.FreeChunk(5) != 6 || c.FreeChunk(7) != 7 {
		t.Errorf("free numbers: a version %d, chunks %d, %d, %d", c.FreeVersion(), c.FreeChunk(0), c.FreeChunk(5), c.FreeChunk(7))
	}
}

// Chunks with one sum are all found.
func TestKnown(t *testing.T) {
	records := record.AppendChunk(nil, 3, []byte("same"))
	records = record.AppendChunk(records, 1, []byte("other"))
	records = record.AppendChunk(records, 2, []byte("same"))
	c := made(t, records)
	var ids []uint32
	for id, piece := range c.Known(SumOf([]byte("same"))) {
		if piece.Size != 4 {
			t.Errorf("a piece of %d bytes", piece.Size)
		}
		ids = append(ids, id)
	}
	if !slices.Equal(ids, []uint32{3, 2}) {
		t.Errorf("%v", ids)
	}
	for range c.Known(SumOf([]byte("none"))) {
		t.Error("a chunk that is not there is known")
	}
}

func TestFind(t *testing.T) {
	records := record.AppendVersion(nil, 0, "p", 2, nil)
	c := made(t, record.AppendVersion(records, 1, "p", 5, nil))
	for _, ask := range []struct{ number, want int }{{0, 5}, {2, 2}, {5, 5}} {
		if v, err := c.Find("p", ask.number); err != nil || v.Number != ask.want {
			t.Errorf("version %d: %v, %v", ask.number, v, err)
		}
	}
	for _, number := range []int{-1, 1, 3, 4, 6, 1 << 62, -1 << 63} {
		if _, err := c.Find("p", number); !errors.Is(err, api.ErrMissing) {
			t.Errorf("version %d: %v", number, err)
		}
	}
	for _, number := range []int{0, 1, -1} {
		if _, err := c.Find("q", number); !errors.Is(err, api.ErrMissing) {
			t.Errorf("no version, %d: %v", number, err)
		}
	}
}

// P5: a number is followed by the one above it, as long as that is an int.
func TestNext(t *testing.T) {
	for _, latest := range []int{1, 2, math.MaxInt32 - 1, math.MaxInt32, math.MaxInt32 + 1, math.MaxUint32, 1<<35 - 1, 1 << 62, math.MaxInt - 1} {
		c := made(t, record.AppendVersion(nil, 0, "p", latest, nil))
		if n, err := c.Next("p"); n != latest+1 || err != nil {
			t.Errorf("behind %d: %d, %v", latest, n, err)
		}
		if n, err := c.Next("q"); n != 1 || err != nil {
			t.Errorf("behind no version: %d, %v", n, err)
		}
	}
	c := made(t, record.AppendVersion(nil, 0, "p", math.MaxInt, nil))
	if n, err := c.Next("p"); n != 0 || !errors.Is(err, api.ErrCorrupt) {
		t.Errorf("behind the greatest int: %d, %v", n, err)
	}
}

// P1: records that are well formed, but that no archive wrote.
func TestApplyOfWhatCannotBe(t *testing.T) {
	version := func(id uint32, path string, number int, chunks ...uint32) []byte {
		return record.AppendVersion(nil, id, path, number, chunks)
	}
	first := version(0, "p", 3)
	long := record.AppendChunk(nil, 0, chunkOf(api.MaxChunk))
	ids := make([]uint32, api.MaxContent/api.MaxChunk+1)
	tag := func(name string, id uint32) []byte { return record.AppendTag(bytes.Clone(first), name, id) }
	for what, records := range map[string][]byte{
		"an empty chunk":             record.AppendChunk(nil, 0, nil),
		"a chunk that is too long":   record.AppendChunk(nil, 0, chunkOf(api.MaxChunk+1)),
		"two chunks of one number":   record.AppendChunk(record.AppendChunk(nil, 4, chunkOf(1)), 4, chunkOf(2)),
		"a path that is none":        version(0, "a/", 1),
		"an empty path":              version(0, "", 1),
		"the number 0":               version(0, "p", 0),
		"a number twice":             append(bytes.Clone(first), version(1, "p", 3)...),
		"a number that falls":        append(bytes.Clone(first), version(1, "p", 2)...),
		"two records of one number":  append(bytes.Clone(first), version(0, "q", 1)...),
		"a great number that falls":  append(version(0, "p", 1<<33), version(1, "p", 1<<33-1)...),
		"a chunk that is not there":  version(0, "p", 1, 0),
		"a chunk far beyond":         version(0, "p", 1, math.MaxInt32),
		"a chunk that comes later":   append(version(0, "p", 1, 0), long...),
		"a content that is too long": append(long, version(0, "p", 1, ids...)...),
		"a record that is none":      {99},
		"no version to tag":          record.AppendTag(nil, "t", 0),
		"another version to tag":     tag("t", 1),
		"a version that is gone":     record.AppendTag(record.AppendPrune(bytes.Clone(first), "p", 0), "t", 0),
		"a name that is none":        tag("/", 0),
		"an empty name":              tag("", 0),
		"a tag twice":                record.AppendTag(tag("t", 0), "t", 0),
	} {
		if err := New().Apply(0, records); !errors.Is(err, api.ErrCorrupt) {
			t.Errorf("%s: %v", what, err)
		}
	}
}

func FuzzApply(f *testing.F) {
	records := record.AppendChunk(nil, 1, []byte("abc"))
	records = record.AppendVersion(records, 0, "p", 1, []uint32{1, 1})
	f.Add(slices.Clone(records))
	records = record.AppendVersion(records, 1, "p", 2, nil)
	records = record.AppendTag(records, "t", 0)
	f.Add(slices.Clone(records))
	records = record.AppendPrune(records, "p", 0)
	f.Add(records)
	f.Fuzz(func(t *testing.T, records []byte) {
		c := New()
		if err := c.Apply(0, records); err != nil {
			return
		}
		for _, e := range c.List("") {
			v, err := c.Find(e.Path, 0)
			if err != nil || v.Number != e.Latest || v.Size != e.Size || v.Size > api.MaxContent || !IsPath(e.Path) {
				t.Errorf("%v: %v, %v", e, v, err)
			}
			for p := range c.Pieces(v) {
				if p.Place < 0 || p.End() > len(records) {
					t.Errorf("%v: a piece outside, %v", e, p)
				}
			}
		}
		expectSameWithoutUnused(t, c, records)
	})
}

// summary tells all that can be read of a catalog whose records stand in memory.
func summary(c *Catalog, memory []byte) string {
	var all strings.Builder
	for _, e := range c.List("") {
		numbers, _ := c.Numbers(e.Path)
		for _, n := range numbers {
			v, _ := c.Find(e.Path, n)
			tell(&all, e, n, v.Held())
			for p := range c.Pieces(v) {
				all.Write(memory[p.Place:p.End()])
			}
		}
	}
	tell(&all, c.Tags(), c.Bytes(), c.Versions())
	return all.String()
}

// expectSameWithoutUnused: when the records that nothing needs are cut out, all is as it was; and so it is in a catalog that takes in what is left.
func expectSameWithoutUnused(t *testing.T, c *Catalog, memory []byte) {
	t.Helper()
	want := summary(c, memory)
	for _, list := range []func() []store.Span{c.Forgotten, c.Unused, c.Prunes} {
		cuts := list()
		for _, at := range slices.Backward(cuts) {
			memory = slices.Concat(memory[:at.Place], memory[at.End():])
		}
		c.Cut(cuts)
		if got := summary(c, memory); got != want {
			t.Errorf("without %v: %q\nwant\n%q", cuts, got, want)
		}
		again := New()
		if err := again.Apply(0, memory); err != nil {
			t.Fatalf("without %v: %v", cuts, err)
		}
		if got := summary(again, memory); got != want {
			t.Errorf("without %v, taken in again: %q\nwant\n%q", cuts, got, want)
		}
	}
	if len(c.Unused())+len(c.Forgotten())+len(c.Prunes()) > 0 {
		t.Errorf("unused yet: %v, %v, %v", c.Unused(), c.Forgotten(), c.Prunes())
	}
}
