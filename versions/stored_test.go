package versions_test

import (
	"bytes"
	"slices"
	"testing"

	"versions/api"
	"versions/versions"
)

// chunksOf is how many chunks contents have together, of which no two are the same, and their bytes.
func chunksOf(contents ...[]byte) (int, int) {
	m := newModel()
	for _, c := range contents {
		m.store(c)
	}
	s := m.storedIn()
	return s.Chunks, s.Bytes
}

func expectChunksOf(t testing.TB, what string, a *versions.Archive, contents ...[]byte) {
	t.Helper()
	chunks, bytes := chunksOf(contents...)
	expectStored(t, what, a, chunks, bytes)
}

// P10: the same chunk in one content twice, in two contents, and in none.
func TestStored(t *testing.T) {
	a := fresh(t)
	expectStored(t, "nothing", a, 0, 0)
	expectPut(t, a, "a", nil, 1)
	expectStored(t, "no bytes", a, 0, 0)
	same := bytes.Repeat([]byte("a"), 1000)
	expectPut(t, a, "a", same, 2)
	expectStored(t, "three chunks of 256, and one of 232", a, 2, 488)
	expectPut(t, a, "b", same[:512], 1)
	expectStored(t, "in two contents", a, 2, 488)
	expectPut(t, a, "b", same[:600], 2)
	expectStored(t, "one of 88 more", a, 3, 576)
	expectDelete(t, a, "a", 2, api.OK)
	expectDelete(t, a, "b", 2, api.OK)
	expectStored(t, "ahead of Collect", a, 3, 576)
	collected(t, a)
	expectStored(t, "behind Collect", a, 1, 256)
	expectPrune(t, a, "b", 0, 1)
	collected(t, a)
	expectStored(t, "in none any more", a, 0, 0)
	expectVersions(t, a, "a", 1)
	expectGet(t, a, "a", 1, nil)
}

// P10: chunks whose sums are the same are two.
func TestStoredOfSameSums(t *testing.T) {
	x, y := sameSum(t)
	a := fresh(t)
	expectPut(t, a, "a", x, 1)
	expectPut(t, a, "a", y, 2)
	expectPut(t, a, "a", slices.Concat(y, x, y), 3)
	expectStored(t, "two", a, 2, 32)
	expectDelete(t, a, "a", 3, api.OK)
	expectDelete(t, a, "a", 1, api.OK)
	collected(t, a)
	expectStored(t, "one", a, 1, 16)
	expectGet(t, a, "a", 2, y)
	expectPut(t, a, "a", x, 3)
	expectStored(t, "two again", a, 2, 32)
}

// P10: nothing but Put and Collect changes it.
func TestStoredStays(t *testing.T) {
	a := opened(t, api.NewDevice(1000), 1000)
	one, two := noise(1, 300), noise(2, 300)
	expectPut(t, a, "a", one, 1)
	expectPut(t, a, "a", two, 2)
	expectPut(t, a, "b", two, 1)
	for what, call := range map[string]func(){
		"Get":          func() { expectGet(t, a, "a", 1, one) },
		"Sync":         func() { expectError(t, "Sync", a.Sync(), api.OK) },
		"Tag, Untag":   func() { expectTag(t, a, "t", "a", 0, api.OK); expectUntag(t, a, "t", api.OK) },
		"a wrong path": func() { expectNoPut(t, a, "A", noise(3, 300), api.ErrPath) },
		"the quota":    func() { expectNoPut(t, a, "a", noise(3, 300), api.ErrQuota) },
		"the size":     func() { expectNoPut(t, a, "a", noise(3, 4001), api.ErrSize) },
		"none deleted": func() { expectDelete(t, a, "a", 9, api.ErrMissing) },
		"none pruned":  func() { expectPrune(t, a, "a", 2, 0) },
		"Collect":      func() { collected(t, a) },
	} {
		call()
		expectChunksOf(t, what, a, one, two)
	}
	expectDelete(t, a, "a", 1, api.OK)
	expectChunksOf(t, "Delete", a, one, two)
	expectPrune(t, a, "a", 0, 1)
	expectChunksOf(t, "Prune", a, one, two)
	expectPut(t, a, "a", nil, 1)
	expectChunksOf(t, "a Put of no bytes", a, one, two)
	collected(t, a)
	expectChunksOf(t, "Collect", a, two)
}

// P10: a Put behind a Delete takes the chunks that are there yet; behind Collect it adds them again.
func TestPutOfWhatWasDeleted(t *testing.T) {
	d := api.NewDevice(400)
	a := opened(t, d, plenty)
	one, two := noise(1, 500), noise(2, 500)
	expectPut(t, a, "a", one, 1)
	expectPut(t, a, "b", two, 1)
	expectDelete(t, a, "a", 1, api.OK)
	expectPut(t, a, "c", one, 1)
	expectChunksOf(t, "behind Delete", a, one, two)
	collected(t, a)
	expectChunksOf(t, "c has them", a, one, two)
	expectDelete(t, a, "c", 1, api.OK)
	collected(t, a)
	expectChunksOf(t, "none has them", a, two)
	expectPut(t, a, "a", one, 1)
	for range 2 {
		expectChunksOf(t, "added again", a, one, two)
		expectGet(t, a, "a", 1, one)
		expectGet(t, a, "b", 1, two)
		a = reopened(t, a, d, plenty)
	}
}

// P10: behind Open the chunks that versions have are there, and maybe more, of those that were there; a Put adds just what is not there then.
func TestStoredBehindOpen(t *testing.T) {
	d := api.NewDevice(400)
	a := opened(t, d, plenty)
	one, two := noise(1, 500), noise(2, 500)
	expectPut(t, a, "a", one, 1)
	expectPut(t, a, "b", two, 1)
	expectDelete(t, a, "a", 1, api.OK)
	for range 4 {
		a = reopened(t, a, d, plenty)
		expectChunksOf(t, "what no version has is freed", a, two)
		expectPut(t, a, "a", one, 1)
		expectChunksOf(t, "added again", a, one, two)
		a = reopened(t, a, d, plenty)
		expectChunksOf(t, "and there", a, one, two)
		expectGet(t, a, "a", 0, one)
		expectPrune(t, a, "a", 0, 1)
		expectChunksOf(t, "not freed yet", a, one, two)
	}
}

// P10, P11: behind Collect all is as it was but for what is stored, and it is safe.
func TestCollect(t *testing.T) {
	d := api.NewDevice(400)
	a := opened(t, d, plenty)
	m := newModel()
	collected(t, a)
	expectSame(t, "nothing", a, m)
	for i := range 12 {
		content := slices.Concat(noise(uint32(i%5), i*70), noise(77, 300))
		path := []string{"a", "b/c", "d"}[i%3]
		expectPut(t, a, path, content, m.put(path, content))
	}
	for _, o := range []op{
		{call: "Tag", name: "t", path: "a", number: 2}, {call: "Tag", name: "u", path: "b/c", number: 1}, {call: "Delete", path: "d", number: 3},
		{call: "Prune", path: "a", number: 1}, {call: "Collect"}, {call: "Collect"}, {call: "Untag", name: "t"}, {call: "Prune", path: "b/c"}, {call: "Collect"},
		{call: "Put", path: "d", content: noise(3, 200)}, {call: "Delete", path: "a", number: 0}, {call: "Delete", path: "a", number: 0}, {call: "Collect"},
	} {
		_, want := m.do(o)
		_, err := o.on(a)
		expectError(t, o.String(), err, want)
		expectSame(t, o.String(), a, m)
		if o.call == "Collect" {
			e := d.Copy()
			expectSame(t, "a copy", opened(t, e, plenty), m)
			d.Crash(0)
			expectSame(t, "behind a crash", a, m)
			a = opened(t, d, plenty)
			expectSame(t, "opened", a, m)
		}
	}
}
