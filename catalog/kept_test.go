package catalog

import (
	"errors"
	"fmt"
	"io"
	"slices"
	"testing"

	"versions/api"
	"versions/record"
	"versions/store"
)

func tell(w io.Writer, what ...any) { fmt.Fprintln(w, what...) }

// lot is five versions, 1 to 5, of a path p, each of which has a chunk of its own and one in common; their chunks have 1 to 5 bytes. The numbers of the records are those of the versions.
func lot() []byte {
	records := record.AppendChunk(nil, 0, []byte("common"))
	for i := range uint32(5) {
		records = record.AppendChunk(records, i+1, chunkOf(int(i+1)))
		records = record.AppendVersion(records, i+1, "p", int(i+1), []uint32{0, i + 1})
	}
	return records
}

func expectNumbers(t *testing.T, what string, c *Catalog, want ...int) {
	t.Helper()
	bytes := 0
	for _, n := range want {
		bytes += len("common") + n
	}
	if got, _ := c.Numbers("p"); !slices.Equal(got, want) || c.Bytes() != bytes || c.Versions() != len(want) {
		t.Errorf("%s: %v, %d bytes, want %v, %d bytes", what, got, c.Bytes(), want, bytes)
	}
}

func found(t *testing.T, c *Catalog, number int) *Version {
	t.Helper()
	v, err := c.Find("p", number)
	if err != nil {
		t.Fatal(err)
	}
	return v
}

// A version whose record is cut out is there no more; all others stand further ahead.
func TestCutOfVersions(t *testing.T) {
	c := made(t, lot())
	left := []int{1, 2, 3, 4, 5}
	end := found(t, c, 5).At.End()
	for _, n := range []int{2, 5, 1, 4, 3} {
		at := found(t, c, n).At
		c.Cut([]store.Span{at})
		end -= at.Size
		left = slices.DeleteFunc(left, func(k int) bool { return k == n })
		expectNumbers(t, fmt.Sprint("without ", n), c, left...)
		if id := c.FreeVersion(); slices.Contains(left, int(id)) {
			t.Errorf("the number %d is free", id)
		}
	}
	if len(c.List("")) != 0 {
		t.Errorf("a path without versions: %v", c.List(""))
	}
	applied(t, c, end, record.AppendVersion(nil, 0, "p", 1, []uint32{0, 5}))
	expectPiecesOf(t, c, 1, 1002, end-5)
}

// expectPiecesOf tells where the chunks of a version are.
func expectPiecesOf(t *testing.T, c *Catalog, number int, want ...int) {
	t.Helper()
	var got []int
	for p := range c.Pieces(found(t, c, number)) {
		got = append(got, p.Place)
	}
	if !slices.Equal(got, want) {
		t.Errorf("the chunks of version %d are at %v, want %v", number, got, want)
	}
}

// Records of all kinds at once: those behind a cut stand further ahead, by all that was cut out ahead of them.
func TestCutMovesWhatIsBehind(t *testing.T) {
	records := record.AppendTag(lot(), "t", 3)
	records = record.AppendTag(records, "u", 4)
	c := made(t, record.AppendPrune(records, "p", 5))
	t3, _ := c.FindTag("t")
	u4, _ := c.FindTag("u")
	common, one := store.Span{Place: 1000, Size: 8}, store.Span{Place: 1008, Size: 3}
	wantT, wantV, wantP := t3.At.Place-15, found(t, c, 3).At.Place-11, c.Prunes()[0].Place-15-u4.At.Size
	v1 := found(t, c, 1).At
	if v1.Place != 1011 {
		t.Fatalf("the first version is at %v", v1)
	}
	two := store.Span{Place: v1.End(), Size: 4}
	c.Cut([]store.Span{common, one, two, u4.At})
	if t3.At.Place != wantT || found(t, c, 3).At.Place != wantV-4 || c.Prunes()[0].Place != wantP || found(t, c, 1).At.Place != 1000 {
		t.Errorf("tag %v, version %v, prune %v", t3.At, found(t, c, 3).At, c.Prunes())
	}
	if _, err := c.FindTag("u"); !errors.Is(err, api.ErrMissing) || found(t, c, 4).Held() {
		t.Errorf("the tag u is there yet: %v", err)
	}
	if c.FreeChunk(0) != 0 || c.FreeChunk(1) != 1 || c.FreeChunk(2) != 2 || c.FreeChunk(3) != 6 {
		t.Error("the numbers of the chunks that were cut out are not free")
	}
	expectStored(t, "three less", c, 3, 12)
}

func TestPrune(t *testing.T) {
	for _, ask := range []struct {
		keep int
		left []int
	}{
		{0, []int{2, 4}}, {1, []int{2, 4, 5}}, {2, []int{2, 4, 5}}, {3, []int{2, 3, 4, 5}}, {4, []int{2, 3, 4, 5}}, {5, []int{1, 2, 3, 4, 5}},
	} {
		records := record.AppendTag(lot(), "s", 2)
		records = record.AppendTag(records, "t", 4)
		records = record.AppendTag(records, "u", 4)
		c := New()
		applied(t, c, 0, records)
		if n := len(c.Prunable("p", ask.keep)); n != 5-len(ask.left) {
			t.Errorf("%d can be pruned, keep %d", n, ask.keep)
		}
		prune := record.AppendPrune(nil, "p", ask.keep)
		applied(t, c, len(records), prune)
		expectNumbers(t, fmt.Sprint("keep ", ask.keep), c, ask.left...)
		expectStored(t, "no chunk goes", c, 6, 21)
		if len(c.Forgotten()) != 5-len(ask.left) || len(c.Prunes()) != 1 {
			t.Errorf("keep %d: unused %v, prunes %v", ask.keep, c.Forgotten(), c.Prunes())
		}
		expectSameWithoutUnused(t, c, append(records, prune...))
	}
	c := made(t, lot())
	for keep, want := range map[int]int{5: 0, 6: 0, 1 << 62: 0, 0: 5, -1: 5, -1 << 63: 5} {
		if n := len(c.Prunable("p", keep)); n != want {
			t.Errorf("keep %d: %d, want %d", keep, n, want)
		}
		if n := len(c.Prunable("q", keep)); n != 0 {
			t.Errorf("no version: %d", n)
		}
	}
}

// A path whose versions are all gone begins anew, while their records are there yet.
func TestVersionsBehindAPrune(t *testing.T) {
	records := record.AppendPrune(lot(), "p", 0)
	records = record.AppendVersion(records, 0, "p", 1, []uint32{0, 2})
	c := New()
	applied(t, c, 0, records)
	if got, _ := c.Numbers("p"); !slices.Equal(got, []int{1}) || c.Bytes() != 8 || c.FreeVersion() != 6 {
		t.Errorf("%v, %d bytes", got, c.Bytes())
	}
	if len(c.Unused()) != 5+4 || len(c.Forgotten()) != 5 {
		t.Errorf("unused: %v, but for known chunks: %v", c.Unused(), c.Forgotten())
	}
	c.Cut(c.Forgotten())
	expectStored(t, "just the versions went", c, 6, 21)
	if got, _ := c.Numbers("p"); !slices.Equal(got, []int{1}) || c.Bytes() != 8 || c.FreeVersion() != 1 {
		t.Errorf("%v, %d bytes", got, c.Bytes())
	}
}

func TestTags(t *testing.T) {
	records := lot()
	for i, name := range []string{"z", "a", "a/b", "m"} {
		records = record.AppendTag(records, name, uint32(2+i%2))
	}
	c := made(t, records)
	want := []api.Pin{{Tag: "a", Path: "p", Version: 3}, {Tag: "a/b", Path: "p", Version: 2}, {Tag: "m", Path: "p", Version: 3}, {Tag: "z", Path: "p", Version: 2}}
	if got := c.Tags(); !slices.Equal(got, want) {
		t.Errorf("%v, want %v", got, want)
	}
	if n := c.TagBytes(); n != len(records)-len(lot()) {
		t.Errorf("tags of %d bytes", n)
	}
	has := func(name string) bool {
		_, err := c.FindTag(name)
		return err == nil
	}
	for _, name := range []string{"z", "m", "a/b", "a"} {
		tag, err := c.FindTag(name)
		if err != nil || has(name+"x") {
			t.Fatalf("the tag %q is not there, or another one is: %v", name, err)
		}
		c.Cut([]store.Span{tag.At})
		if found(t, c, 2).Held() != has("a/b") || found(t, c, 3).Held() != has("a") || found(t, c, 1).Held() {
			t.Errorf("without %q: %v", name, c.Tags())
		}
	}
	if got := c.Tags(); len(got) != 0 || c.TagBytes() != 0 {
		t.Errorf("%v", got)
	}
}

func expectStored(t *testing.T, what string, c *Catalog, chunks, bytes int) {
	t.Helper()
	if got := c.Stored(); got != (api.Stored{Chunks: chunks, Bytes: bytes}) {
		t.Errorf("%s: %v, want %d, %d", what, got, chunks, bytes)
	}
}

func TestForget(t *testing.T) {
	c := made(t, lot())
	expectStored(t, "all", c, 6, 21)
	c.Forget()
	expectStored(t, "all are had", c, 6, 21)
	if len(c.Unused())+len(c.Forgotten()) != 0 {
		t.Errorf("unused: %v", c.Unused())
	}
	for _, n := range []int{2, 5} {
		c.Cut([]store.Span{found(t, c, n).At})
	}
	expectStored(t, "two are had by none", c, 6, 21)
	if len(c.Unused()) != 2 || len(c.Forgotten()) != 0 {
		t.Errorf("unused: %v, but for known chunks: %v", c.Unused(), c.Forgotten())
	}
	c.Forget()
	expectStored(t, "without those two", c, 4, 14)
	if len(c.Unused()) != 2 || !slices.Equal(c.Forgotten(), c.Unused()) {
		t.Errorf("unused: %v, but for known chunks: %v", c.Unused(), c.Forgotten())
	}
	for range c.Known(SumOf(chunkOf(5))) {
		t.Error("a chunk that was forgotten is known")
	}
	for id := range c.Known(SumOf(chunkOf(4))) {
		if id != 4 {
			t.Errorf("chunk %d", id)
		}
	}
	if c.FreeChunk(0) != 6 {
		t.Errorf("while a record is there, its number is not free: %d", c.FreeChunk(0))
	}
	c.Cut(c.Forgotten())
	expectStored(t, "without their records", c, 4, 14)
	if c.FreeChunk(0) != 2 || c.FreeChunk(3) != 5 {
		t.Errorf("then they are: %d, %d", c.FreeChunk(0), c.FreeChunk(3))
	}
}

// Of chunks with the same sum just those are forgotten that no version has.
func TestForgetOfSameSums(t *testing.T) {
	records := record.AppendChunk(nil, 0, []byte("same"))
	records = record.AppendChunk(records, 1, []byte("same"))
	c := made(t, record.AppendVersion(records, 0, "p", 1, []uint32{1}))
	c.Forget()
	for id := range c.Known(SumOf([]byte("same"))) {
		if id != 1 {
			t.Errorf("chunk %d", id)
		}
	}
	expectStored(t, "one of them", c, 1, 4)
	c.Cut(c.Forgotten())
	expectStored(t, "one of them", c, 1, 4)
	expectPiecesOf(t, c, 1, 1002)
}

// The records that nothing needs come in their order, however the maps are gone through.
func TestUnusedIsInOrder(t *testing.T) {
	var records []byte
	for i := range uint32(50) {
		records = record.AppendChunk(records, i*7%50, chunkOf(int(i+1)))
		records = record.AppendVersion(records, i*11%50, "p", int(i+1), nil)
	}
	c := made(t, record.AppendPrune(records, "p", 10))
	for range 5 {
		if got := c.Unused(); len(got) != 90 || !slices.IsSortedFunc(got, byPlace) {
			t.Fatalf("%v", got)
		}
	}
}
