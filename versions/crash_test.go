package versions_test

import (
	"bytes"
	"fmt"
	"slices"
	"testing"

	"versions/api"
	"versions/versions"
)

// script is a session: contents that have much in common, and all calls that change something.
func script() []op {
	return []op{
		{call: "Put", path: "a", content: noise(1, 700)},
		{call: "Put", path: "b/c", content: append([]byte("xyz"), noise(1, 700)...)},
		{call: "Tag", name: "t", path: "a", number: 1},
		{call: "Sync"},
		{call: "Put", path: "b/c", content: noise(2, 20)},
		{call: "Delete", path: "b/c", number: 1},
		{call: "Put", path: "b/c", content: noise(3, 300)},
		{call: "Tag", name: "u", path: "b/c", number: 2},
		{call: "Sync"},
		{call: "Prune", path: "b/c", number: 1},
		{call: "Put", path: "a", content: noise(1, 700)},
		{call: "Untag", name: "t"},
		{call: "Collect"},
		{call: "Put", path: "a", content: noise(4, 300)},
		{call: "Prune", path: "a", number: 1},
		{call: "Put", path: "b/c"},
	}
}

// churn is a session that fills a small device, so that room must be made, more than once.
func churn() []op {
	var ops []op
	for i := range 9 {
		ops = append(ops,
			op{call: "Put", path: "x", content: noise(uint32(10+i%2), 100)},
			op{call: "Tag", name: "v", path: "x"},
			op{call: "Put", path: "x", content: noise(5, 90)},
			op{call: "Prune", path: "x"},
			op{call: "Untag", name: "v"},
			op{call: "Delete", path: "x"},
		)
	}
	return append(ops, op{call: "Put", path: "x", content: noise(6, 30)})
}

// shortScript is a session that has room on the smallest device.
func shortScript() []op {
	return []op{
		{call: "Put", path: "a", content: noise(1, 200)},
		{call: "Put", path: "a", content: noise(2, 300)},
		{call: "Tag", name: "t", path: "a", number: 1},
		{call: "Put", path: "a", content: noise(3, 10)},
		{call: "Prune", path: "a", number: 1},
		{call: "Untag", name: "t"},
		{call: "Delete", path: "a", number: 1},
		{call: "Collect"},
	}
}

// play makes calls, until an error comes. It tells what was there behind each change, at first what the model has; how many changes were safe; and the error.
func play(a *versions.Archive, m *model, ops []op) (states []string, safe int, err error) {
	states = []string{m.tell()}
	for _, o := range ops {
		if _, errno := m.do(o); errno != api.OK {
			panic(o.String())
		}
		// The one that answers an error may be there, as the last one.
		if o.changes() {
			states = append(states, m.tell())
		}
		if _, err := o.on(a); err != nil {
			return states, safe, err
		}
		if !o.changes() {
			safe = len(states) - 1
		}
	}
	return states, safe, nil
}

var keeps = []uint64{0, 1<<64 - 1, 0x5555555555555555, 0xaaaaaaaaaaaaaaaa, 3, 0xfffffffffffffff0, 0x9249249249249249}

// smallDevice has room for the script, but not for the churn behind it, unless room is made.
func smallDevice() *api.Device { return api.NewDevice(28) }

// cutAll plays over copies of a device, and closes the archive, with the power cut at each operation, from the first one on by this step, and hands on what a crash leaves.
func cutAll(t *testing.T, what string, before *api.Device, ops []op, first, step int, keeps []uint64, then func(what string, d *api.Device)) {
	t.Helper()
	there := copied(t, before)
	for cut := first; ; cut += step {
		finished := false
		for _, keep := range keeps {
			d := before.Copy()
			a := opened(t, d, plenty)
			d.Cut(cut)
			states, safe, err := play(a, there(), ops)
			if err != nil {
				expectPowerless(t, a, err)
			} else if err := a.Close(); err == nil {
				finished, safe = true, len(states)-1
			} else {
				expectError(t, "Close", err, api.ErrPower)
			}
			d.Crash(keep)
			if err != nil {
				expectPowerless(t, a, err)
			}
			what := fmt.Sprintf("%s, cut %d, keep %x", what, cut, keep)
			if got := tell(t, opened(t, d, plenty)); !slices.Contains(states[safe:], got) {
				t.Fatalf("%s: %d changes, %d of them safe, but there is\n%.3000q", what, len(states)-1, safe, got)
			}
			then(what, d)
		}
		if finished {
			return
		}
	}
}

// copied makes models of what is on a device.
func copied(t testing.TB, d *api.Device) func() *model {
	t.Helper()
	a := opened(t, d.Copy(), plenty)
	return func() *model {
		m := newModel()
		entries, _ := a.List("")
		for _, e := range entries {
			numbers, _ := a.Versions(e.Path)
			for _, n := range numbers {
				b, err := a.Get(e.Path, n)
				if err != nil {
					t.Fatal(err)
				}
				m.files[e.Path] = append(m.files[e.Path], kept{n, string(b)})
			}
		}
		pins, _ := a.Tags()
		for _, pin := range pins {
			m.tags[pin.Tag] = pin
		}
		return m
	}
}

// played is a device on which calls were made, and the archive was closed.
func played(t *testing.T, d *api.Device, ops []op) *api.Device {
	t.Helper()
	a := opened(t, d, plenty)
	if _, _, err := play(a, copied(t, d)(), ops); err != nil {
		t.Fatal(err)
	}
	expectError(t, "Close", a.Close(), api.OK)
	return d
}

func ignore(string, *api.Device) {}

// P13: the power is cut at each operation, and the crash leaves this or that.
func TestCrashes(t *testing.T) {
	cutAll(t, "script", smallDevice(), script(), 0, 1, keeps, ignore)
}

// P13: a crash leaves each choice of up to 8 sectors that are not safe.
func TestCrashesThatLeaveAnySectors(t *testing.T) {
	var all []uint64
	for keep := range uint64(1 << 8) {
		all = append(all, keep)
	}
	cutAll(t, "short script", smallDevice(), shortScript(), 0, 1, all, ignore)
}

// P13: likewise while room is made.
func TestCrashesOfChurn(t *testing.T) {
	cutAll(t, "churn", played(t, smallDevice(), script()), churn(), 0, 1, keeps, ignore)
}

// P13: a second crash behind the first one, and then a session that is closed.
func TestCrashesTwice(t *testing.T) {
	turn := 0
	cutAll(t, "script", smallDevice(), script(), 0, 5, keeps[:3], func(what string, d *api.Device) {
		turn++
		cutAll(t, what, d, churn(), turn%13, 13, keeps[:2], func(what string, d *api.Device) {
			m := copied(t, d)()
			a := opened(t, d, plenty)
			for range 2 {
				expectPut(t, a, "y", noise(7, 50), m.put("y", noise(7, 50)))
				collected(t, a)
			}
			a = reopened(t, a, d, plenty)
			if got := tell(t, a); got != m.tell() {
				t.Fatalf("%s: %.3000q\nwant\n%.3000q", what, got, m.tell())
			}
		})
	})
}

// expectPowerless: when a call has answered ErrPower, all that change something answer it, and Sync. What is refused anyway is refused.
func expectPowerless(t *testing.T, a *versions.Archive, err error) {
	t.Helper()
	expectError(t, "the call at which the power was cut", err, api.ErrPower)
	expectNoPut(t, a, "a", noise(1, 700), api.ErrPower)
	expectNoPut(t, a, "a", nil, api.ErrPower)
	expectNoPut(t, a, "A", nil, api.ErrPath)
	expectError(t, "Sync", a.Sync(), api.ErrPower)
	expectError(t, "Collect", a.Collect(), api.ErrPower)
	expectTag(t, a, "A", "a", 1, api.ErrPath)
	expectDelete(t, a, "none", 1, api.ErrMissing)
	entries, _ := a.List("")
	for _, e := range entries {
		expectTag(t, a, "new", e.Path, 0, api.ErrPower)
		expectNoPrune(t, a, e.Path, 0, api.ErrPower)
		expectNoPrune(t, a, e.Path, e.Versions, api.ErrPower)
		if err := a.Delete(e.Path, 0); api.Tell(err) != api.ErrPinned {
			expectError(t, "Delete", err, api.ErrPower)
		}
	}
	pins, _ := a.Tags()
	for _, pin := range pins {
		expectUntag(t, a, pin.Tag, api.ErrPower)
	}
}

// P13: a crash between two calls, and the archive that was open then is closed yet.
func TestCloseBehindACrash(t *testing.T) {
	for _, keep := range keeps {
		for n := range script() {
			d := smallDevice()
			a := opened(t, d, plenty)
			states, safe, err := play(a, newModel(), script()[:n])
			if err != nil {
				t.Fatal(err)
			}
			d.Crash(keep)
			before := tell(t, opened(t, d.Copy(), plenty))
			a.Close()
			if got := tell(t, opened(t, d, plenty)); got != before || !slices.Contains(states[safe:], got) {
				t.Errorf("keep %x, %d calls: there is\n%.3000q", keep, n, got)
			}
		}
	}
}

// P13: no call that uses the device goes on without power; those that do not may.
func TestCallsWithoutPower(t *testing.T) {
	d := api.NewDevice(100)
	a := opened(t, d, plenty)
	expectPut(t, a, "a", []byte("x"), 1)
	expectTag(t, a, "t", "a", 1, api.OK)
	d.Cut(0)
	expectNoGet(t, a, "a", 1, api.ErrPower)
	expectNoRead(t, a, "a", 1, 0, 1, api.ErrPower)
	expectNoGet(t, a, "a", 2, api.ErrMissing)
	expectVersions(t, a, "a", 1)
	expectTags(t, a, api.Pin{Tag: "t", Path: "a", Version: 1})
	expectStored(t, "without power", a, 1, 1)
	expectPowerless(t, a, a.Sync())
	expectStored(t, "without power", a, 1, 1)
	b, err := versions.Open(d, plenty)
	if b != nil {
		t.Error("an archive beside an error")
	}
	expectError(t, "Open", err, api.ErrPower)
}

// P13: the power is cut while a content of many chunks is read: none of it is told.
func TestReadWithoutPower(t *testing.T) {
	before := api.NewDevice(100)
	content := noise(1, 3000)
	expectPut(t, opened(t, before, plenty), "a", content, 1)
	for cut := 0; ; cut++ {
		d := before.Copy()
		a := opened(t, d, plenty)
		d.Cut(cut)
		if b, err := a.Get("a", 1); err == nil {
			if !bytes.Equal(b, content) || cut < 3000/api.SectorSize {
				t.Errorf("%d operations: %d bytes", cut, len(b))
			}
			return
		}
		expectNoGet(t, a, "a", 1, api.ErrPower)
		expectNoRead(t, a, "a", 1, 500, 2000, api.ErrPower)
		expectError(t, "Sync", a.Sync(), api.ErrPower)
	}
}

// P13: each call is the first one to be without power.
func TestEachCallWithoutPower(t *testing.T) {
	before := played(t, smallDevice(), script())
	for _, o := range []op{
		{call: "Put", path: "new"}, {call: "Delete", path: "a"}, {call: "Prune", path: "a"}, {call: "Tag", name: "n", path: "a"},
		{call: "Untag", name: "u"}, {call: "Collect"}, {call: "Sync"},
	} {
		d := before.Copy()
		a := opened(t, d, plenty)
		want := tell(t, a)
		stored, _ := a.Stored()
		d.Cut(0)
		n, err := o.on(a)
		if n != 0 {
			t.Errorf("%v: %d beside %v", o, n, err)
		}
		expectPowerless(t, a, err)
		if got, _ := a.Stored(); got != stored {
			t.Errorf("%v: Stored: %v, want %v", o, got, stored)
		}
		d.Crash(0)
		if got := tell(t, opened(t, d, plenty)); got != want {
			t.Errorf("%v: there is\n%.3000q", o, got)
		}
	}
}

// P13: the power is cut while an archive is opened.
func TestOpenWithoutPower(t *testing.T) {
	before := played(t, smallDevice(), script())
	want := tell(t, opened(t, before.Copy(), plenty))
	for cut := 0; ; cut++ {
		d := before.Copy()
		d.Cut(cut)
		a, err := versions.Open(d, plenty)
		if err == nil {
			return
		}
		if a != nil {
			t.Error("an archive beside an error")
		}
		expectError(t, "Open", err, api.ErrPower)
		d.Crash(1<<64 - 1)
		if got := tell(t, opened(t, d, plenty)); got != want {
			t.Fatalf("cut %d: there is\n%.3000q", cut, got)
		}
	}
}
