package versions_test

import (
	"fmt"
	"slices"
	"testing"

	"versions/api"
	"versions/versions"
)

// script is a session: contents that have much in common, put under two paths; an empty one stands for Sync.
func script() [][]byte {
	return [][]byte{
		noise(1, 700), append([]byte("xyz"), noise(1, 700)...), nil, noise(2, 20), noise(3, 300), nil, noise(1, 700), noise(4, 500),
	}
}

// play plays the script, until an error comes. It tells what was there behind each change, at first nothing; how many changes were safe; and the error.
func play(a *versions.Archive, m model) (states []string, safe int, err error) {
	states = []string{m.tell()}
	for i, content := range script() {
		if content == nil {
			if err := a.Sync(); err != nil {
				return states, safe, err
			}
			safe = len(states) - 1
			continue
		}
		path := []string{"a", "b/c"}[i%2]
		m.put(path, content)
		if _, err := a.Put(path, content); err != nil {
			// It may be there, as the last one.
			return append(states, m.tell()), safe, err
		}
		states = append(states, m.tell())
	}
	return states, safe, nil
}

var keeps = []uint64{0, 1<<64 - 1, 0x5555555555555555, 0xaaaaaaaaaaaaaaaa, 3, 0xfffffffffffffff0, 0x9249249249249249}

// P13: the power is cut at each operation, and the crash leaves this or that.
func TestCrashes(t *testing.T) {
	for cut := 0; ; cut++ {
		finished := false
		for _, keep := range keeps {
			d := api.NewDevice(100)
			a := opened(t, d, plenty)
			d.Cut(cut)
			states, safe, err := play(a, model{})
			if finished = err == nil; !finished {
				expectPowerless(t, a, err)
			}
			d.Crash(keep)
			got := tell(t, opened(t, d, plenty))
			if !slices.Contains(states[safe:], got) {
				t.Fatalf("cut %d, keep %x: %d changes, %d of them safe, but there is\n%.3000q", cut, keep, len(states)-1, safe, got)
			}
		}
		if finished {
			return
		}
	}
}

// expectPowerless: when a call has answered ErrPower, all that change something answer it, and Sync.
func expectPowerless(t *testing.T, a *versions.Archive, err error) {
	t.Helper()
	expectError(t, "the call at which the power was cut", err, api.ErrPower)
	expectNoPut(t, a, "a", []byte("x"), api.ErrPower)
	expectNoPut(t, a, "a", nil, api.ErrPower)
	expectNoPut(t, a, "A", nil, api.ErrPath)
	expectError(t, "Sync", a.Sync(), api.ErrPower)
}

// P13: a crash between two calls, and the archive that was open then is closed yet.
func TestCloseBehindACrash(t *testing.T) {
	for _, keep := range keeps {
		d := api.NewDevice(100)
		a := opened(t, d, plenty)
		states, safe, err := play(a, model{})
		if err != nil {
			t.Fatal(err)
		}
		d.Crash(keep)
		before := tell(t, opened(t, d.Copy(), plenty))
		a.Close()
		if got := tell(t, opened(t, d, plenty)); got != before || !slices.Contains(states[safe:], got) {
			t.Errorf("keep %x: there is\n%.3000q", keep, got)
		}
	}
}

// P13: no call that uses the device goes on without power; those that do not may.
func TestCallsWithoutPower(t *testing.T) {
	d := api.NewDevice(100)
	a := opened(t, d, plenty)
	expectPut(t, a, "a", []byte("x"), 1)
	d.Cut(0)
	expectNoGet(t, a, "a", 1, api.ErrPower)
	expectNoRead(t, a, "a", 1, 0, 1, api.ErrPower)
	expectNoGet(t, a, "a", 2, api.ErrMissing)
	expectVersions(t, a, "a", 1)
	expectPowerless(t, a, a.Sync())
	b, err := versions.Open(d, plenty)
	if b != nil {
		t.Error("an archive beside an error")
	}
	expectError(t, "Open", err, api.ErrPower)
}

// P14: each bit is turned about once.
func TestFlips(t *testing.T) {
	d := api.NewDevice(30)
	a := opened(t, d, plenty)
	states, _, err := play(a, model{})
	if err != nil {
		t.Fatal(err)
	}
	unsafe := d.Copy()
	a.Close()
	for what, d := range map[string]*api.Device{"closed": d, "not closed": unsafe} {
		for bit := range uint(30 * api.SectorSize * 8) {
			e := d.Copy()
			e.Flip(bit)
			a, err := versions.Open(e, plenty)
			if err != nil {
				expectError(t, fmt.Sprintf("%s, bit %d", what, bit), err, api.ErrCorrupt)
				continue
			}
			if got := tell(t, a); !slices.Contains(states, got) {
				t.Fatalf("%s, bit %d: there is\n%.3000q", what, bit, got)
			}
		}
	}
}

// P14: what is turned about while an archive is open is told too, with the sector's number.
func TestFlipWhileOpen(t *testing.T) {
	d := api.NewDevice(60)
	a := opened(t, d, plenty)
	expectPut(t, a, "a", noise(1, 90), 1)
	d.Flip(2*api.SectorSize*8 + 500)
	expectNoGet(t, a, "a", 1, api.ErrCorrupt)
	expectNoRead(t, a, "a", 1, 0, 5, api.ErrCorrupt)
	expectNoPut(t, a, "b", noise(1, 90), api.ErrCorrupt)
	expectVersions(t, a, "a", 1)
}
