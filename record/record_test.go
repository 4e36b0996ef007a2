package record

import (
	"bytes"
	"errors"
	"math"
	"reflect"
	"testing"

	"versions/api"
)

// read goes through records to their end.
func read(b []byte) (records []Record, err error) {
	for r, e := range All(b) {
		if e != nil {
			return records, e
		}
		records = append(records, r)
	}
	return records, nil
}

// sample is records of all kinds, as bytes and as they are.
func sample() ([]byte, []Record) {
	long := bytes.Repeat([]byte{0, 1}, api.MaxChunk/2)
	b := AppendChunk(nil, 0, []byte("x"))
	b = AppendChunk(b, 1<<31-1, long)
	b = AppendVersion(b, 300, "abcdefghij/klmnopqrs", 1<<31-1, []uint32{0, 128, 1<<31 - 1})
	b = AppendVersion(b, 0, "a", 1, nil)
	b = AppendVersion(b, 1, "b", 1<<31, []uint32{0})
	b = AppendVersion(b, 2, "c", math.MaxInt, nil)
	b = AppendTag(b, "abcdefghij/klmnopqrs", 300)
	b = AppendTag(b, "t", 0)
	b = AppendPrune(b, "a/b", 0)
	b = AppendPrune(b, "_", 1<<31)
	return b, []Record{
		Chunk{Head{kindChunk, 2}, 0, []byte("x")},
		Chunk{Head{kindChunk, 261}, 1<<31 - 1, long},
		Version{Head{kindVersion, 29}, 300, 1<<31 - 1, []uint32{0, 128, 1<<31 - 1}, "abcdefghij/klmnopqrs"},
		Version{Head{kindVersion, 4}, 0, 1, nil, "a"},
		Version{Head{kindVersion, 9}, 1, 1 << 31, []uint32{0}, "b"},
		Version{Head{kindVersion, 12}, 2, math.MaxInt, nil, "c"},
		Tag{Head{kindTag, 15}, 300, "abcdefghij/klmnopqrs"},
		Tag{Head{kindTag, 2}, 0, "t"},
		Prune{Head{kindPrune, 3}, 0, "a/b"},
		Prune{Head{kindPrune, 6}, 1 << 31, "_"},
	}
}

func TestAllIsWhatWasAppended(t *testing.T) {
	b, want := sample()
	got, err := read(b)
	if err != nil || !reflect.DeepEqual(got, want) {
		t.Errorf("%v, %v; want %v", got, err, want)
	}
	for _, none := range [][]byte{nil, {}} {
		if got, err := read(none); got != nil || err != nil {
			t.Errorf("nothing: %v, %v", got, err)
		}
	}
}

// The head's method is each record's own.
func TestLengths(t *testing.T) {
	b, records := sample()
	sum := 0
	for _, r := range records {
		sum += r.Length()
	}
	if sum != len(b) {
		t.Errorf("the records have %d bytes together, want %d", sum, len(b))
	}
}

// P12 leans on it: a small chunk has little beside its bytes, and a tag's record is far shorter than its name and its path.
func TestSizes(t *testing.T) {
	if n := len(AppendChunk(nil, 1<<14-1, make([]byte, api.MinChunk))); n != api.MinChunk+3 {
		t.Errorf("a chunk of %d bytes has %d", api.MinChunk, n)
	}
	if n := len(AppendTag(nil, "////////////////////", 1<<14-1)); n != 17 {
		t.Errorf("a tag has %d bytes", n)
	}
}

func TestAllCanBeLeft(t *testing.T) {
	b, _ := sample()
	for r, err := range All(b) {
		if r.Length() != 3 || err != nil {
			t.Errorf("the first record has %d bytes, %v", r.Length(), err)
		}
		break
	}
}

// P1: what no archive wrote is told, not read.
func TestAllOfWhatIsNoRecord(t *testing.T) {
	b, records := sample()
	for n := range len(b) {
		got, err := read(b[:n])
		whole := 0
		for _, r := range got {
			whole += r.Length()
		}
		if err == nil && whole != n || err != nil && !errors.Is(err, api.ErrCorrupt) {
			t.Errorf("the first %d bytes: %d of them read, %v", n, whole, err)
		}
	}
	if len(records) != 10 {
		t.Fatal("the sample is another one")
	}
	head := func(k kind, body ...byte) []byte { return appendRecord(nil, k, body) }
	for what, b := range map[string][]byte{
		"a chunk without a number":             head(kindChunk),
		"half the number of a chunk":           head(kindChunk, 128),
		"a number that is longer than needed":  head(kindChunk, 129, 0, 'a'),
		"a number that is too great":           head(kindChunk, 128, 128, 128, 128, 8, 'a'),
		"a tag of a record that can't be":      head(kindTag, 128, 128, 128, 128, 8, 1),
		"a version without a number":           head(kindVersion),
		"half the number of a version":         head(kindVersion, 1, 128),
		"a version whose number is no int":     head(kindVersion, 1, 128, 128, 128, 128, 128, 128, 128, 128, 128, 1, 0, 1),
		"one whose number is no int by far":    head(kindVersion, append([]byte{1}, bytes.Repeat([]byte{255}, 40)...)...),
		"a version that has just one":          head(kindVersion, 1),
		"a version without chunks":             head(kindVersion, 1, 1),
		"fewer chunks than there ought to be":  head(kindVersion, 1, 1, 3, 7, 7),
		"far fewer chunks":                     head(kindVersion, 1, 1, 255, 255, 255, 255, 7, 7),
		"by far the fewest":                    head(kindVersion, 1, 1, 255, 255, 255, 255, 255, 255, 255, 255, 127, 7),
		"a version whose path ends with a 0":   head(kindVersion, 1, 1, 0, 1, 0),
		"a tag without a version":              head(kindTag),
		"a tag with a digit 0":                 head(kindTag, 1, byte(base)),
		"a tag that is too long":               head(kindTag, append(make([]byte, 15), 1)...),
		"a tag of more letters than there are": head(kindTag, append([]byte{1}, bytes.Repeat([]byte{255}, 14)...)...),
		"a prune without a number":             head(kindPrune),
		"a record that is cut off":             head(kindChunk, 1, 2, 3)[:3],
		"a head that is cut off":               {128},
		"a record that is far too long":        {255, 255, 255, 255, 127, 1, 2, 3},
		"one that is as long as can be":        {255, 255, 255, 255, 255, 255, 255, 255, 127, 1, 2, 3},
		"a head that is longer than needed":    {132, 0, 1},
	} {
		if got, err := read(b); got != nil || !errors.Is(err, api.ErrCorrupt) {
			t.Errorf("%s: %v, %v", what, got, err)
		}
	}
}

// But for a Chunk's data all of a record is its own: the bytes are those of a buffer that is used again.
func TestRecordsAreFresh(t *testing.T) {
	b := AppendVersion(nil, 1, "path", 2, []uint32{5})
	b = AppendTag(b, "name", 1)
	got, err := read(b)
	clear(b)
	want := []Record{Version{Head{kindVersion, 7}, 1, 2, []uint32{5}, "path"}, Tag{Head{kindTag, 4}, 1, "name"}}
	if err != nil || !reflect.DeepEqual(got, want) {
		t.Errorf("%v, %v, want %v", got, err, want)
	}
}

func FuzzAll(f *testing.F) {
	b, _ := sample()
	f.Add(b)
	f.Add([]byte{byte(kindVersion), 4, 0, 1, 'a', 1, 0})
	f.Fuzz(func(t *testing.T, b []byte) {
		records, err := read(b)
		whole := 0
		for _, r := range records {
			whole += r.Length()
		}
		if (err == nil) != (whole == len(b)) {
			t.Errorf("%d bytes of %d read, %v", whole, len(b), err)
		}
		if again := appended(records); !bytes.Equal(again, b[:whole]) {
			t.Errorf("%v, appended again: %v, want %v", records, again, b[:whole])
		}
	})
}

// appended appends records again.
func appended(records []Record) []byte {
	var b []byte
	for _, r := range records {
		switch r := r.(type) {
		case Chunk:
			b = AppendChunk(b, r.ID, r.Data)
		case Version:
			b = AppendVersion(b, r.ID, r.Path, r.Number, r.Chunks)
		case Tag:
			b = AppendTag(b, r.Name, r.Version)
		case Prune:
			b = AppendPrune(b, r.Path, r.Keep)
		}
	}
	return b
}
