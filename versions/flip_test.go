package versions_test

import (
	"bytes"
	"errors"
	"fmt"
	"math"
	"slices"
	"strings"
	"testing"

	"versions/api"
	"versions/versions"
)

// expectFlips turns each step-th bit of a device about, from the first one on, one at a time: Open answers ErrCorrupt, or gives an archive that is in one of the states, and can be used.
func expectFlips(t *testing.T, what string, d *api.Device, first, step int, states []string) {
	t.Helper()
	corrupt := 0
	for bit := first; bit < d.Sectors()*api.SectorSize*8; bit += step {
		what := fmt.Sprintf("%s, bit %d", what, bit)
		e := d.Copy()
		e.Flip(uint(bit))
		a, err := versions.Open(e, plenty)
		if err != nil {
			expectCorrupt(t, what, a, err, bit/8/api.SectorSize)
			corrupt++
			continue
		}
		got := tellDamaged(t, a)
		if !slices.ContainsFunc(states, func(s string) bool { return isLike(got, s) }) {
			t.Fatalf("%s: there is\n%.3000q", what, got)
		}
		if bit/step%50 == 0 {
			expectGoesOn(t, what, a, e)
		}
	}
	if corrupt == 0 {
		t.Errorf("%s: no bit counts", what)
	}
}

// expectCorrupt: Open answered ErrCorrupt with the sector's number, and no archive.
func expectCorrupt(t *testing.T, what string, a *versions.Archive, err error, sector int) {
	t.Helper()
	var where *api.SectorError
	if a != nil || !errors.Is(err, api.ErrCorrupt) || !errors.As(err, &where) || where.Sector != sector {
		t.Fatalf("%s: Open: %v, %v, want an error at sector %d", what, a, err, sector)
	}
}

// tellDamaged tells all that an archive has, as tell does; but Get and ReadAt may answer ErrCorrupt: then a question mark stands for the content.
func tellDamaged(t *testing.T, a *versions.Archive) string {
	t.Helper()
	return tellBy(t, a, func(e api.Entry, number int) string {
		b, err := a.Get(e.Path, number)
		c, again := a.ReadAt(e.Path, number, 0, math.MaxInt)
		if api.Tell(err) != api.Tell(again) || !bytes.Equal(b, c) {
			t.Fatalf("Get: %d bytes, %v; ReadAt: %d bytes, %v", len(b), err, len(c), again)
		}
		if err == nil {
			return hex(b)
		}
		if api.Tell(err) != api.ErrCorrupt || len(b) > 0 {
			t.Fatalf("Get(%q, %d): %d bytes, %v", e.Path, number, len(b), err)
		}
		return "?"
	})
}

// isLike tells whether a state is that one, but for contents that are corrupt.
func isLike(got, want string) bool {
	if got == want {
		return true
	}
	lines := strings.Split(want, "\n")
	for i, line := range strings.Split(got, "\n") {
		known, corrupt := strings.CutSuffix(line, "?")
		if i >= len(lines) || line != lines[i] && !(corrupt && strings.HasPrefix(lines[i], known)) {
			return false
		}
	}
	return strings.Count(got, "\n") == len(lines)-1
}

// expectGoesOn: an archive that was given can be used, and what it does is there when it is opened again.
func expectGoesOn(t *testing.T, what string, a *versions.Archive, d *api.Device) {
	t.Helper()
	m := copied(t, d)()
	for _, o := range []op{
		{call: "Prune", path: "a"}, {call: "Collect"}, {call: "Put", path: "new", content: noise(8, 90)}, {call: "Tag", name: "new", path: "new"},
		{call: "Untag", name: "new"}, {call: "Put", path: "new"}, {call: "Delete", path: "new", number: 1},
	} {
		expectAnswer(t, what, a, m, o)
	}
	if got := tell(t, reopened(t, a, d, plenty)); got != m.tell() {
		t.Fatalf("%s, used: %.3000q\nwant\n%.3000q", what, got, m.tell())
	}
}

// P14: each bit of a device with nothing on it, and behind each call of a session; closed, or not.
func TestFlipsBehindEachCall(t *testing.T) {
	for n := range len(shortScript()) + 1 {
		d := api.NewDevice(api.MinSectors)
		a := opened(t, d, plenty)
		states, _, err := play(a, newModel(), shortScript()[:n])
		if err != nil {
			t.Fatal(err)
		}
		expectFlips(t, fmt.Sprintf("%d calls, not closed", n), d.Copy(), n, 11, states)
		a.Close()
		expectFlips(t, fmt.Sprintf("%d calls, closed", n), d, 0, 1, states)
	}
}

// P14: a device that was used for long, by many sessions.
func TestFlipsBehindLongUse(t *testing.T) {
	d := smallDevice()
	m := newModel()
	states := []string{m.tell()}
	for i, ops := range [][]op{script(), churn(), churn(), churn()} {
		a := opened(t, d, plenty)
		more, _, err := play(a, m, ops)
		if err != nil {
			t.Fatalf("session %d: %v", i, err)
		}
		states = append(states, more...)
		a.Close()
	}
	expectFlips(t, "long use", d, 0, 1, states)
}

// P14: a device that is full, behind calls that answered ErrFull.
func TestFlipsOfAFullDevice(t *testing.T) {
	d := api.NewDevice(api.MinSectors)
	a := opened(t, d, plenty)
	m := newModel()
	states := []string{m.tell()}
	for i, n := range []int{300, 300, 300, 100, 100, 30, 30, 30, 1, 1, 1, 1} {
		content := noise(uint32(i), n)
		if _, err := a.Put("a", content); err != nil {
			expectError(t, "Put", err, api.ErrFull)
			continue
		}
		m.put("a", content)
		states = append(states, m.tell())
	}
	expectNoPut(t, a, "a", noise(99, 100), api.ErrFull)
	expectFlips(t, "full", d, 0, 1, states)
	expectDelete(t, a, "a", 1, api.OK)
	expectNoPut(t, a, "a", noise(98, 400), api.ErrFull)
	m.do(op{call: "Delete", path: "a", number: 1})
	expectFlips(t, "full, and one taken away", d, 0, 1, append(states, m.tell()))
}

// P14: behind a crash at each operation, which leaves this or that; some bits each time, others the next time.
func TestFlipsBehindCrashes(t *testing.T) {
	turn := 0
	crashed := func(what string, ops []op, keeps []uint64, step int) {
		all, _, err := play(fresh(t), newModel(), ops)
		if err != nil {
			t.Fatal(err)
		}
		cutAll(t, what, api.NewDevice(api.MinSectors), ops, 0, 1, keeps, func(what string, d *api.Device) {
			turn++
			expectFlips(t, what, d, turn%step, step, all)
		})
	}
	crashed("short script", shortScript(), keeps, 79)
	var choices []uint64
	for keep := range uint64(1 << 7) {
		choices = append(choices, keep)
	}
	crashed("two calls", shortScript()[:2], choices, 173)
}

// P14: what is turned about while an archive is open is told too, with the sector's number.
func TestFlipWhileOpen(t *testing.T) {
	d := api.NewDevice(60)
	a := opened(t, d, plenty)
	expectPut(t, a, "a", noise(1, 50), 1)
	d.Flip(4*api.SectorSize*8 + 100)
	expectNoGet(t, a, "a", 1, api.ErrCorrupt)
	expectNoRead(t, a, "a", 1, 0, 5, api.ErrCorrupt)
	expectNoPut(t, a, "b", noise(1, 50), api.ErrCorrupt)
	expectDelete(t, a, "a", 1, api.ErrCorrupt)
	expectTag(t, a, "t", "a", 1, api.ErrCorrupt)
	expectVersions(t, a, "a", 1)
	expectStored(t, "as it was", a, 1, 50)
}
