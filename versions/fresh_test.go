package versions_test

import (
	"bytes"
	"testing"
	"unsafe"

	"versions/api"
)

// P2: what is handed in is not written into, nor the room behind it, and is not kept.
func TestPutLeavesContentAlone(t *testing.T) {
	a := fresh(t)
	room := noise(1, 3000)
	before := bytes.Clone(room)
	expectPut(t, a, "a", room[:1000], 1)
	expectPut(t, a, "a", room[:2000], 2)
	expectNoPut(t, a, "A", room[:2000], api.ErrPath)
	if !bytes.Equal(room, before) {
		t.Fatal("the content was written into, or the room behind it")
	}
	clear(room)
	expectGet(t, a, "a", 1, before[:1000])
	expectGet(t, a, "a", 2, before[:2000])
}

// P2: a path or a name that is handed in is not kept, not even its memory.
func TestPathsAndNamesAreNotKept(t *testing.T) {
	a := fresh(t)
	memory := []byte("path")
	text := unsafe.String(&memory[0], len(memory))
	expectPut(t, a, text, []byte("x"), 1)
	expectPut(t, a, text, []byte("y"), 2)
	copy(memory, "name")
	expectTag(t, a, text, "path", 1, api.OK)
	copy(memory, "path")
	expectTag(t, a, "tag", text, 2, api.OK)
	copy(memory, "else")
	expectGet(t, a, "path", 1, []byte("x"))
	expectList(t, a, "", api.Entry{Path: "path", Latest: 2, Size: 1, Versions: 2})
	expectTags(t, a, api.Pin{Tag: "name", Path: "path", Version: 1}, api.Pin{Tag: "tag", Path: "path", Version: 2})
	copy(memory, "name")
	expectUntag(t, a, text, api.OK)
	copy(memory, "path")
	expectDelete(t, a, text, 1, api.OK)
	copy(memory, "else")
	expectPrune(t, a, "path", 0, 0)
	expectTags(t, a, api.Pin{Tag: "tag", Path: "path", Version: 2})
	collected(t, a)
	expectVersions(t, a, "path", 2)
}

// P2: what comes out is fresh, with the room behind it.
func TestAnswersAreFresh(t *testing.T) {
	a := fresh(t)
	content := noise(1, 500)
	expectPut(t, a, "a", content, 1)
	expectPut(t, a, "b", []byte("b"), 1)
	expectTag(t, a, "t", "b", 1, api.OK)
	for range 2 {
		b, _ := a.Get("a", 1)
		clear(b[:cap(b)])
		b, _ = a.ReadAt("a", 1, 100, 100)
		clear(b[:cap(b)])
		numbers, _ := a.Versions("a")
		clear(numbers[:cap(numbers)])
		entries, _ := a.List("")
		clear(entries[:cap(entries)])
		pins, _ := a.Tags()
		clear(pins[:cap(pins)])
	}
	expectTags(t, a, api.Pin{Tag: "t", Path: "b", Version: 1})
	expectGet(t, a, "a", 1, content)
	expectRead(t, a, "a", 1, 100, 100, string(content[100:200]))
	expectVersions(t, a, "a", 1)
	expectList(t, a, "", api.Entry{Path: "a", Latest: 1, Size: 500, Versions: 1}, api.Entry{Path: "b", Latest: 1, Size: 1, Versions: 1})
}

// P2: an answer stays as it is, whatever comes behind it.
func TestAnswersStay(t *testing.T) {
	a := fresh(t)
	expectPut(t, a, "a", noise(1, 500), 1)
	one, _ := a.Get("a", 1)
	numbers, _ := a.Versions("a")
	entries, _ := a.List("")
	expectTag(t, a, "t", "a", 1, api.OK)
	pins, _ := a.Tags()
	expectPut(t, a, "a", noise(2, 500), 2)
	a.Get("a", 2)
	expectUntag(t, a, "t", api.OK)
	expectTag(t, a, "s", "a", 2, api.OK)
	expectDelete(t, a, "a", 1, api.OK)
	collected(t, a)
	a.Close()
	if !bytes.Equal(one, noise(1, 500)) || len(numbers) != 1 || numbers[0] != 1 || entries[0].Latest != 1 {
		t.Errorf("an answer changed: %v, %v", numbers, entries)
	}
	if len(pins) != 1 || pins[0] != (api.Pin{Tag: "t", Path: "a", Version: 1}) {
		t.Errorf("an answer changed: %v", pins)
	}
}
