package catalog

import (
	"errors"
	"fmt"
	"slices"
	"testing"

	"versions/api"
	"versions/record"
)

// lot is a change of five versions, 1 to 5, of a path p, each of which has a chunk of its own and one in common; their chunks have 1 to 5 bytes.
func lot() []byte {
	change := record.AppendChunk(nil, []byte("common"))
	for i := range 5 {
		change = record.AppendChunk(change, chunkOf(i+1))
		change = record.AppendVersion(change, "p", i+1, []uint32{0, uint32(i + 1)})
	}
	return change
}

func expectNumbers(t *testing.T, what string, c *Catalog, want ...int) {
	t.Helper()
	bytes := 0
	for _, n := range want {
		bytes += len("common") + n
	}
	if got, _ := c.Numbers("p"); !slices.Equal(got, want) || c.Bytes() != bytes {
		t.Errorf("%s: %v, %d bytes, want %v, %d bytes", what, got, c.Bytes(), want, bytes)
	}
}

func TestDelete(t *testing.T) {
	c := made(t, lot())
	left := []int{1, 2, 3, 4, 5}
	for _, n := range []int{2, 5, 1, 4} {
		if err := c.Apply(0, record.AppendDelete(nil, "p", n)); err != nil {
			t.Fatal(err)
		}
		left = slices.DeleteFunc(left, func(k int) bool { return k == n })
		expectNumbers(t, fmt.Sprint("without ", n), c, left...)
	}
	if err := c.Apply(0, record.AppendVersion(record.AppendDelete(nil, "p", 3), "p", 1, nil)); err != nil {
		t.Errorf("a path without versions is not as one that never was: %v", err)
	}
}

func TestPrune(t *testing.T) {
	for _, ask := range []struct {
		keep int
		left []int
	}{
		{0, []int{2, 4}}, {1, []int{2, 4, 5}}, {2, []int{2, 4, 5}}, {3, []int{2, 3, 4, 5}}, {4, []int{2, 3, 4, 5}},
	} {
		change := record.AppendTag(lot(), "s", "p", 2)
		change = record.AppendTag(change, "t", "p", 4)
		c := made(t, record.AppendTag(change, "u", "p", 4))
		n, err := c.Prunable("p", ask.keep)
		if err != nil || n != 5-len(ask.left) {
			t.Errorf("%d can be pruned, keep %d: %v", n, ask.keep, err)
		}
		if err := c.Apply(0, record.AppendPrune(nil, "p", ask.keep)); err != nil {
			t.Fatal(err)
		}
		expectNumbers(t, fmt.Sprint("keep ", ask.keep), c, ask.left...)
	}
	c := made(t, lot())
	for _, keep := range []int{5, 6, 1 << 62} {
		if n, err := c.Prunable("p", keep); n != 0 || err != nil {
			t.Errorf("keep %d: %d, %v", keep, n, err)
		}
	}
	for _, keep := range []int{0, -1, -1 << 63} {
		if n, err := c.Prunable("p", keep); n != 5 || err != nil {
			t.Errorf("keep %d: %d, %v", keep, n, err)
		}
		if n, err := c.Prunable("q", keep); n != 0 || !errors.Is(err, api.ErrMissing) {
			t.Errorf("no version: %d, %v", n, err)
		}
	}
}

func TestTags(t *testing.T) {
	change := lot()
	for i, name := range []string{"z", "a", "a/b", "m"} {
		change = record.AppendTag(change, name, "p", 2+i%2)
	}
	c := made(t, change)
	want := []api.Pin{{Tag: "a", Path: "p", Version: 3}, {Tag: "a/b", Path: "p", Version: 2}, {Tag: "m", Path: "p", Version: 3}, {Tag: "z", Path: "p", Version: 2}}
	if got := c.Tags(); !slices.Equal(got, want) {
		t.Errorf("%v, want %v", got, want)
	}
	held := func(number int) bool {
		v, _ := c.Find("p", number)
		return v.Held()
	}
	for _, name := range []string{"z", "m", "a/b", "a"} {
		if !c.HasTag(name) || c.HasTag(name+"x") {
			t.Errorf("the tag %q is not there, or another one is", name)
		}
		if err := c.Apply(0, record.AppendUntag(nil, name)); err != nil {
			t.Fatal(err)
		}
		if held(2) != c.HasTag("a/b") || held(3) != c.HasTag("a") || held(1) {
			t.Errorf("without %q: %v, %v, %v", name, held(1), held(2), held(3))
		}
	}
	if got := c.Tags(); len(got) != 0 {
		t.Errorf("%v", got)
	}
}

func expectStored(t *testing.T, what string, c *Catalog, chunks, bytes int) {
	t.Helper()
	if got := c.Stored(); got != (api.Stored{Chunks: chunks, Bytes: bytes}) {
		t.Errorf("%s: %v, want %d, %d", what, got, chunks, bytes)
	}
}

func TestForget(t *testing.T) {
	c := made(t, lot())
	expectStored(t, "all", c, 6, 21)
	c.Forget()
	expectStored(t, "all are had", c, 6, 21)
	change := record.AppendDelete(nil, "p", 2)
	if err := c.Apply(0, record.AppendDelete(change, "p", 5)); err != nil {
		t.Fatal(err)
	}
	expectStored(t, "two are had by none", c, 6, 21)
	if got := c.Live(); !slices.Equal(got, []uint32{0, 1, 3, 4}) {
		t.Errorf("live: %v", got)
	}
	if got := c.Chunks(); !slices.Equal(got, []uint32{0, 1, 2, 3, 4, 5}) {
		t.Errorf("chunks: %v", got)
	}
	c.Forget()
	expectStored(t, "without those two", c, 4, 14)
	for range c.Known(SumOf(chunkOf(5))) {
		t.Error("a chunk that was forgotten is known")
	}
	for id := range c.Known(SumOf(chunkOf(4))) {
		if id != 4 {
			t.Errorf("chunk %d", id)
		}
	}
	if c.NextChunk() != 6 {
		t.Errorf("the next chunk: %d", c.NextChunk())
	}
}

// Of chunks with the same sum just those are forgotten that no version has.
func TestForgetOfSameSums(t *testing.T) {
	change := record.AppendChunk(nil, []byte("same"))
	change = record.AppendChunk(change, []byte("same"))
	c := made(t, record.AppendVersion(change, "p", 1, []uint32{1}))
	c.Forget()
	if got := c.Chunks(); !slices.Equal(got, []uint32{1}) {
		t.Errorf("%v", got)
	}
}

// summary tells all that can be read of a catalog whose chunks stand in memory.
func summary(c *Catalog, memory []byte) string {
	all := fmt.Sprint(c.List(""), c.Tags(), c.Bytes(), "\n")
	for _, e := range c.List("") {
		numbers, _ := c.Numbers(e.Path)
		for _, n := range numbers {
			v, _ := c.Find(e.Path, n)
			all += fmt.Sprintf("%s %d %v:", e.Path, n, v.Held())
			for p := range c.Pieces(v) {
				all += fmt.Sprintf(" %q", memory[p.Place:p.Place+p.Size])
			}
			all += "\n"
		}
	}
	return all
}

// expectSameBehindImage: a catalog that takes in an image has what the first one has, and just the chunks that were asked for.
func expectSameBehindImage(t *testing.T, c *Catalog, memory []byte) {
	t.Helper()
	read := func(place int, into []byte) error {
		copy(into, memory[place:])
		return nil
	}
	live := c.Live()
	for _, chunks := range [][]uint32{c.Chunks(), live} {
		image, err := c.Image(chunks, read)
		if err != nil || len(image) > len(memory) {
			t.Fatalf("an image of %d bytes, from %d: %v", len(image), len(memory), err)
		}
		again := New()
		if err := again.Apply(0, image); err != nil {
			t.Fatal(err)
		}
		if got, want := summary(again, image), summary(c, memory); got != want {
			t.Errorf("%s\nwant\n%s", got, want)
		}
		if got := again.Stored(); got.Chunks != len(chunks) || len(again.Live()) != len(live) {
			t.Errorf("%v, %d live, want %d chunks, %d live", got, len(again.Live()), len(chunks), len(live))
		}
	}
}

func TestImage(t *testing.T) {
	expectSameBehindImage(t, New(), nil)
	memory := record.AppendVersion(lot(), "a/b", 7, []uint32{5, 0, 5})
	memory = record.AppendVersion(memory, "z", 1, nil)
	for _, name := range []string{"y", "b", "x"} {
		memory = record.AppendTag(memory, name, "p", 4)
	}
	memory = record.AppendTag(memory, "t", "a/b", 7)
	memory = record.AppendPrune(memory, "p", 0)
	memory = record.AppendUntag(memory, "b")
	c := New()
	if err := c.Apply(0, memory); err != nil {
		t.Fatal(err)
	}
	expectStored(t, "with what no version has", c, 6, 21)
	expectSameBehindImage(t, c, memory)
	c.Forget()
	expectStored(t, "without", c, 3, 15)
	expectSameBehindImage(t, c, memory)
}

// An error of the one who reads is handed on.
func TestImageOfWhatCannotBeRead(t *testing.T) {
	c := made(t, lot())
	reads := 0
	image, err := c.Image(c.Chunks(), func(int, []byte) error {
		if reads++; reads == 3 {
			return api.ErrCorrupt
		}
		return nil
	})
	if image != nil || err != api.ErrCorrupt {
		t.Errorf("%d bytes, %v", len(image), err)
	}
}
