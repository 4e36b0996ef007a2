package versions_test

import (
	"fmt"
	"testing"

	"versions/api"
	"versions/versions"
)

// expectClosed makes all calls on an archive that is closed.
func expectClosed(t *testing.T, a *versions.Archive) {
	t.Helper()
	for _, path := range []string{"a", "none", "A", ""} {
		expectNoPut(t, a, path, []byte("x"), api.ErrClosed)
		expectNoGet(t, a, path, 0, api.ErrClosed)
		expectNoRead(t, a, path, 0, 0, 1, api.ErrClosed)
		numbers, err := a.Versions(path)
		if numbers != nil {
			t.Errorf("numbers beside %v", err)
		}
		expectError(t, "Versions", err, api.ErrClosed)
		expectError(t, "Delete", a.Delete(path, 1), api.ErrClosed)
		n, err := a.Prune(path, 1)
		if n != 0 {
			t.Errorf("%d beside %v", n, err)
		}
		expectError(t, "Prune", err, api.ErrClosed)
		expectError(t, "Tag", a.Tag(path, path, 1), api.ErrClosed)
		expectError(t, "Untag", a.Untag(path), api.ErrClosed)
	}
	entries, err := a.List("")
	if entries != nil {
		t.Errorf("entries beside %v", err)
	}
	expectError(t, "List", err, api.ErrClosed)
	pins, err := a.Tags()
	if pins != nil {
		t.Errorf("tags beside %v", err)
	}
	expectError(t, "Tags", err, api.ErrClosed)
	expectError(t, "Collect", a.Collect(), api.ErrClosed)
	stored, err := a.Stored()
	if stored != (api.Stored{}) {
		t.Errorf("%v beside %v", stored, err)
	}
	expectError(t, "Stored", err, api.ErrClosed)
	expectError(t, "Sync", a.Sync(), api.ErrClosed)
	expectError(t, "Close", a.Close(), api.ErrClosed)
}

// P11: behind Close every call answers ErrClosed, ahead of all other errors.
func TestClosed(t *testing.T) {
	a := fresh(t)
	expectPut(t, a, "a", []byte("x"), 1)
	expectTag(t, a, "a", "a", 1, api.OK)
	expectError(t, "Close", a.Close(), api.OK)
	expectClosed(t, a)
	expectClosed(t, a)
}

// P11: Close closes with an error too.
func TestCloseWithoutPower(t *testing.T) {
	d := api.NewDevice(100)
	a := opened(t, d, plenty)
	expectPut(t, a, "a", []byte("x"), 1)
	d.Cut(0)
	expectError(t, "Close", a.Close(), api.ErrPower)
	expectClosed(t, a)
	b := opened(t, api.NewDevice(100), plenty)
	expectError(t, "Close of an archive that has nothing", b.Close(), api.OK)
	expectClosed(t, b)
}

// P11: what was done ahead of a Sync, Collect or Close is there, whatever a crash leaves of the rest.
func TestSafe(t *testing.T) {
	for what, makeSafe := range map[string]func(*versions.Archive) error{
		"Sync":    (*versions.Archive).Sync,
		"Collect": (*versions.Archive).Collect,
		"Close":   (*versions.Archive).Close,
	} {
		for _, again := range []bool{false, true} {
			d := api.NewDevice(200)
			a := opened(t, d, plenty)
			expectPut(t, a, "a", noise(1, 900), 1)
			if again {
				expectError(t, what, a.Sync(), api.OK)
			}
			expectPut(t, a, "a", noise(2, 900), 2)
			expectPut(t, a, "b", noise(2, 900), 1)
			expectTag(t, a, "t", "a", 1, api.OK)
			expectTag(t, a, "u", "a", 1, api.OK)
			expectUntag(t, a, "t", api.OK)
			expectDelete(t, a, "b", 1, api.OK)
			expectError(t, what, makeSafe(a), api.OK)
			d.Crash(0)
			b := opened(t, d, plenty)
			expectVersions(t, b, "a", 1, 2)
			expectMissing(t, b, "b")
			expectGet(t, b, "a", 1, noise(1, 900))
			expectGet(t, b, "a", 2, noise(2, 900))
			expectTags(t, b, api.Pin{Tag: "u", Path: "a", Version: 1})
		}
	}
}

// P11: an archive goes on where the one ahead of it was closed.
func TestOpenAgainAndAgain(t *testing.T) {
	d := api.NewDevice(400)
	m := newModel()
	for i := range 20 {
		a := opened(t, d, plenty)
		if got, want := tell(t, a), m.tell(); got != want {
			t.Fatalf("%q\nwant\n%q", got, want)
		}
		content := append(noise(1, 400), byte(i))
		expectPut(t, a, "a", content, m.put("a", content))
		expectAnswer(t, "each session", a, m, op{call: "Tag", name: fmt.Sprint("t", i%7), path: "a"})
		if i > 3 {
			expectAnswer(t, "each session", a, m, op{call: "Untag", name: fmt.Sprint("t", (i-3)%7)})
		}
		expectAnswer(t, "each session", a, m, op{call: "Prune", path: "a", number: 2})
		if i%2 == 0 {
			expectError(t, "Sync", a.Sync(), api.OK)
			expectError(t, "Sync of nothing", a.Sync(), api.OK)
		}
		expectError(t, "Close", a.Close(), api.OK)
	}
}

// P11: one device's archive has nothing of another's.
func TestArchivesAreApart(t *testing.T) {
	a, b := fresh(t), fresh(t)
	expectPut(t, a, "a", []byte("x"), 1)
	expectList(t, b, "")
	expectPut(t, b, "a", []byte("y"), 1)
	expectGet(t, a, "a", 0, []byte("x"))
	a.Close()
	expectGet(t, b, "a", 0, []byte("y"))
}
