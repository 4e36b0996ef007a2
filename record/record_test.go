package record

import (
	"bytes"
	"errors"
	"reflect"
	"testing"

	"versions/api"
)

// read goes through a change to its end.
func read(change []byte) (records []Record, err error) {
	for r, e := range All(change) {
		if e != nil {
			return records, e
		}
		records = append(records, r)
	}
	return records, nil
}

// sample is a change with records of all kinds, and these records.
func sample() ([]byte, []Record) {
	long := bytes.Repeat([]byte{0, 1}, api.MaxChunk/2)
	change := AppendChunk(nil, []byte("x"))
	change = AppendChunk(change, long)
	change = AppendVersion(change, "abcdefghij/klmnopqrs", 1<<31-1, []uint32{0, 1, 1<<32 - 1})
	change = AppendVersion(change, "a", 1, nil)
	change = AppendDelete(change, "a/b", 300)
	change = AppendPrune(change, "a/b", 0)
	change = AppendTag(change, "abcdefghij/klmnopqrs", "a", 1<<31-1)
	change = AppendUntag(change, "t")
	return change, []Record{
		Chunk{Head{kindChunk, 1}, []byte("x")},
		Chunk{Head{kindChunk, 256}, long},
		Version{Head{kindVersion, 37}, "abcdefghij/klmnopqrs", 1<<31 - 1, []uint32{0, 1, 1<<32 - 1}},
		Version{Head{kindVersion, 6}, "a", 1, nil},
		Delete{Head{kindDelete, 8}, "a/b", 300},
		Prune{Head{kindPrune, 8}, "a/b", 0},
		Tag{Head{kindTag, 27}, "abcdefghij/klmnopqrs", "a", 1<<31 - 1},
		Untag{Head{kindUntag, 2}, "t"},
	}
}

func TestAllIsWhatWasAppended(t *testing.T) {
	change, want := sample()
	got, err := read(change)
	if err != nil || !reflect.DeepEqual(got, want) {
		t.Errorf("%v, %v; want %v", got, err, want)
	}
}

// The head's method is each record's own.
func TestLengths(t *testing.T) {
	change, records := sample()
	sum := 0
	for _, r := range records {
		sum += r.Length()
	}
	if sum != len(change) {
		t.Errorf("the records have %d bytes together, the change %d", sum, len(change))
	}
}

func TestAllEndsAtBytes0(t *testing.T) {
	change, want := sample()
	for _, n := range []int{1, 2, 3, 200} {
		got, err := read(append(bytes.Clone(change), make([]byte, n)...))
		if err != nil || !reflect.DeepEqual(got, want) {
			t.Errorf("with %d bytes 0 behind it: %v, %v", n, got, err)
		}
	}
	for _, none := range [][]byte{nil, {}, {0}, make([]byte, 115)} {
		if got, err := read(none); got != nil || err != nil {
			t.Errorf("nothing: %v, %v", got, err)
		}
	}
}

func TestAllCanBeLeft(t *testing.T) {
	change, _ := sample()
	for r, err := range All(change) {
		if r.Length() != 4 || err != nil {
			t.Errorf("the first record has %d bytes, %v", r.Length(), err)
		}
		break
	}
}

// P1: what no archive wrote is told, not read.
func TestAllOfWhatIsNoChange(t *testing.T) {
	change, records := sample()
	for n := range len(change) {
		got, err := read(change[:n])
		whole := 0
		for _, r := range got {
			whole += r.Length()
		}
		if err == nil && whole != n || err != nil && !errors.Is(err, api.ErrCorrupt) {
			t.Errorf("the first %d bytes: %d of them read, %v", n, whole, err)
		}
	}
	if len(records) != 8 {
		t.Fatal("the sample is another one")
	}
	for what, change := range map[string][]byte{
		"a kind that is none":         {99, 0, 0},
		"a version without a path":    {byte(kindVersion), 0, 0},
		"a path that goes beyond it":  {byte(kindVersion), 3, 0, 200, 'a', 'b'},
		"a version without a number":  {byte(kindVersion), 4, 0, 1, 'a', 1, 0},
		"half the number of a chunk":  {byte(kindVersion), 8, 0, 1, 'a', 1, 0, 0, 0, 7, 7},
		"a delete without a number":   {byte(kindDelete), 2, 0, 1, 'a'},
		"a delete with more":          {byte(kindDelete), 7, 0, 1, 'a', 1, 0, 0, 0, 0},
		"a prune without a number":    {byte(kindPrune), 5, 0, 1, 'a', 1, 0, 0},
		"a prune with more":           {byte(kindPrune), 7, 0, 1, 'a', 1, 0, 0, 0, 0},
		"a tag without a path":        {byte(kindTag), 2, 0, 1, 't'},
		"a tag without a number":      {byte(kindTag), 4, 0, 1, 't', 1, 'a'},
		"a tag with more":             {byte(kindTag), 9, 0, 1, 't', 1, 'a', 1, 0, 0, 0, 0},
		"an untag without a name":     {byte(kindUntag), 0, 0},
		"an untag with more":          {byte(kindUntag), 3, 0, 1, 't', 0},
		"a record that is cut off":    {byte(kindChunk), 3, 0, 'a', 'b'},
		"a head that is cut off":      {byte(kindChunk), 3},
		"a length of the high byte 1": {byte(kindChunk), 0, 1, 'a'},
	} {
		if got, err := read(change); got != nil || !errors.Is(err, api.ErrCorrupt) {
			t.Errorf("%s: %v, %v", what, got, err)
		}
	}
}

// But for a Chunk's data all of a record is its own: the change is a buffer that is used again.
func TestRecordsAreFresh(t *testing.T) {
	change := AppendVersion(nil, "path", 2, []uint32{5})
	change = AppendTag(change, "name", "path", 2)
	got, err := read(change)
	clear(change)
	want := []Record{Version{Head{kindVersion, 13}, "path", 2, []uint32{5}}, Tag{Head{kindTag, 14}, "name", "path", 2}}
	if err != nil || !reflect.DeepEqual(got, want) {
		t.Errorf("%v, %v", got, err)
	}
}

func FuzzAll(f *testing.F) {
	change, _ := sample()
	f.Add(change)
	f.Add([]byte{byte(kindVersion), 4, 0, 1, 'a', 1, 0})
	f.Fuzz(func(t *testing.T, change []byte) {
		records, err := read(change)
		whole := 0
		for _, r := range records {
			whole += r.Length()
		}
		rest := change[whole:]
		if err == nil && len(rest) > 0 && rest[0] != 0 {
			t.Errorf("%d bytes of %d read, and no error", whole, len(change))
		}
	})
}
