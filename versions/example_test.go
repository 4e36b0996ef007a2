package versions_test

import (
	"testing"

	"versions/api"
	"versions/versions"
)

// The document's second table.
func TestExamples(t *testing.T) {
	a := opened(t, api.NewDevice(1000), 100000)
	expectPut(t, a, "a", []byte("one"), 1)
	expectPut(t, a, "a", []byte("second"), 2)
	expectPut(t, a, "b/c", nil, 1)
	expectGet(t, a, "a", 0, []byte("second"))
	expectGet(t, a, "a", 1, []byte("one"))
	expectNoGet(t, a, "a", 3, api.ErrMissing)
	expectRead(t, a, "a", 2, 3, 99, "ond")
	expectRead(t, a, "a", 1, 3, 0, "")
	expectNoRead(t, a, "a", 1, 4, 0, api.ErrRange)
	expectList(t, a, "", api.Entry{Path: "a", Latest: 2, Size: 6, Versions: 2}, api.Entry{Path: "b/c", Latest: 1, Size: 0, Versions: 1})
	for _, path := range []string{"a//b", "A", "a/"} {
		expectNoPut(t, a, path, []byte("x"), api.ErrPath)
	}
	expectTag(t, a, "t", "a", 1, api.OK)
	expectTag(t, a, "t", "a", 2, api.ErrExists)
	expectTag(t, a, "u", "a", 9, api.ErrMissing)
	expectDelete(t, a, "a", 1, api.ErrPinned)
	expectDelete(t, a, "a", 2, api.OK)
	expectVersions(t, a, "a", 1)
	expectPut(t, a, "a", []byte("third"), 2)
	expectVersions(t, a, "a", 1, 2)
	expectPrune(t, a, "a", 0, 1)
	expectVersions(t, a, "a", 1)
	expectUntag(t, a, "t", api.OK)
	expectPrune(t, a, "a", 0, 1)
	expectMissing(t, a, "a")
	expectError(t, "Close", a.Close(), api.OK)
	expectError(t, "Close", a.Close(), api.ErrClosed)
	_, err := a.List("")
	expectError(t, "List", err, api.ErrClosed)
}

// tenChunks finds 800 bytes that are cut into 10 chunks, of which only the first one is another if xyz is ahead, as the document's example has them.
func tenChunks(t *testing.T) []byte {
	t.Helper()
	for seed := range uint32(10000) {
		content := noise(seed, 800)
		cuts := versions.Cuts(content)
		other := versions.Cuts(append([]byte("xyz"), content...))
		if len(cuts) == 10 && len(other) == 10 && cuts[0] == 74 && other[0] == 77 {
			return content
		}
	}
	t.Fatal("there are none")
	return nil
}

// What the document says of Stored below its tables.
func TestExampleOfStored(t *testing.T) {
	content := tenChunks(t)
	a := opened(t, api.NewDevice(1000), 100000)
	expectPut(t, a, "a", content, 1)
	expectPut(t, a, "b", content, 1)
	expectStored(t, "twice the same", a, 10, 800)
	expectPut(t, a, "c", append([]byte("xyz"), content...), 1)
	expectStored(t, "with another first chunk", a, 11, 877)
	expectDelete(t, a, "a", 1, api.OK)
	expectDelete(t, a, "b", 1, api.OK)
	expectStored(t, "ahead of Collect", a, 11, 877)
	collected(t, a)
	expectStored(t, "behind Collect", a, 10, 803)
	expectGet(t, a, "c", 1, append([]byte("xyz"), content...))
}
