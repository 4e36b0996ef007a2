package store

import (
	"bytes"
	"errors"
	"fmt"
	"testing"

	"versions/api"
)

// step is a change, and what it makes of a string.
type step struct {
	do   func(s *Store) error
	want func(b []byte) []byte
}

func appending(seed int64, n int) step {
	return step{
		func(s *Store) error { return s.Append(noise(seed, n), 0) },
		func(b []byte) []byte { return append(bytes.Clone(b), noise(seed, n)...) },
	}
}

func cutting(cuts ...Span) step {
	return step{
		func(s *Store) error { return s.Cut(cuts) },
		func(b []byte) []byte { return without(b, cuts...) },
	}
}

func tightening() step {
	return step{(*Store).Tighten, func(b []byte) []byte { return b }}
}

// steps are changes of all kinds.
func steps() []step {
	return []step{
		appending(1, 10), appending(2, 3*room), cutting(Span{5, 100}), appending(3, room+1),
		cutting(Span{0, 50}, Span{150, 20}, Span{300, 90}), tightening(), appending(4, 200), cutting(Span{40, 300}), appending(5, 1),
	}
}

// keeps are some choices of what a crash leaves.
var keeps = []uint64{0, 1<<64 - 1, 0x5555555555555555, 0xaaaaaaaaaaaaaaaa, 1, 2, 4, 8, 6, 12, 0xfffffffffffffffe, 0x9249249249249249, 0x0f0f0f0f0f0f0f0f}

// play makes changes until an error comes. It tells the string behind the last one that was made, and behind the next one.
func play(s *Store, b []byte, all []step) (done, next []byte, err error) {
	for _, step := range all {
		next = step.want(b)
		if err := step.do(s); err != nil {
			return b, next, err
		}
		b = next
	}
	return b, b, nil
}

// cutAll plays over copies of a device that has a string, with the power cut at each operation, and hands on what a crash leaves: what was made is safe, and what was not is there as a whole or not at all.
func cutAll(t *testing.T, what string, before *api.Device, b []byte, all []step, then func(what string, d *api.Device, b []byte)) {
	t.Helper()
	for at := 0; ; at++ {
		finished := false
		for _, keep := range keeps {
			what := fmt.Sprintf("%s, cut %d, keep %x", what, at, keep)
			d := before.Copy()
			s, _ := opened(t, d)
			d.Cut(at)
			done, next, err := play(s, b, all)
			if finished = err == nil; !finished {
				expectPowerless(t, what, s, err)
			}
			d.Crash(keep)
			if !finished {
				expectPowerless(t, what, s, err)
			}
			_, got := opened(t, d)
			if !bytes.Equal(got, done) && !bytes.Equal(got, next) {
				t.Fatalf("%s: %d bytes, want %d, or %d", what, len(got), len(done), len(next))
			}
			then(what, d, got)
		}
		if finished {
			return
		}
	}
}

// P13: once the power was cut, all changes answer so, even if there is power again.
func expectPowerless(t *testing.T, what string, s *Store, err error) {
	t.Helper()
	for i, err := range []error{err, s.Append([]byte("x"), 0), s.Sync(), s.Fault()} {
		if !errors.Is(err, api.ErrPower) {
			t.Fatalf("%s: call %d: %v", what, i, err)
		}
	}
}

// P13: the power is cut at each operation, and the crash leaves this or that; then once more, in the next store over the device.
func TestCrashes(t *testing.T) {
	n := 0
	cutAll(t, "first", api.NewDevice(30), nil, steps(), func(what string, d *api.Device, b []byte) {
		if n++; n%17 > 0 {
			return
		}
		second := []step{appending(6, 150), cutting(Span{20, 110}), tightening(), appending(7, 2*room)}
		cutAll(t, what, d, b, second, func(what string, d *api.Device, b []byte) {
			s, _ := opened(t, d)
			appended(t, s, []byte("x"))
			d.Crash(0)
			expectString(t, what, s, append(b, 'x'))
		})
	})
}

// P13: what a crash left of a change must not come up again with the next one.
func TestWhatACrashLeftStaysAway(t *testing.T) {
	for _, keep := range keeps {
		d := api.NewDevice(16)
		s, _ := opened(t, d)
		appended(t, s, []byte("a"))
		for _, data := range []string{"b", "c", "d"} {
			s, was := opened(t, d)
			d.Cut(3) // ahead of the mark
			if err := s.Append([]byte(data), 0); !errors.Is(err, api.ErrPower) {
				t.Fatal(err)
			}
			d.Crash(keep)
			if _, got := opened(t, d); !bytes.Equal(got, was) || string(got) != "a" {
				t.Fatalf("keep %x: %q, want %q", keep, got, was)
			}
		}
		s, _ = opened(t, d)
		appended(t, s, []byte("e"))
		expectString(t, "behind the crashes", s, []byte("ae"))
	}
}

// P13: a Sync that has nothing to do answers it too, and so does Open.
func TestSyncAndOpenWithoutPower(t *testing.T) {
	s := empty(t, 16)
	for range 2 {
		if err := s.Sync(); err != nil {
			t.Fatal(err)
		}
	}
	appended(t, s, noise(1, 300))
	for at := range 6 {
		d := s.device.Copy()
		d.Cut(at)
		if s, all, err := Open(d); s != nil || all != nil || !errors.Is(err, api.ErrPower) {
			t.Errorf("Open behind %d operations: %v, %q, %v", at, s, all, err)
		}
	}
	s.device.Cut(0)
	if err := s.Read(0, make([]byte, 1)); !errors.Is(err, api.ErrPower) {
		t.Errorf("Read: %v", err)
	}
	expectPowerless(t, "Sync", s, s.Sync())
}

// P14: where a bit of a sector that counts is turned about, that is told, with the sector's number; else it does no harm.
func TestFlips(t *testing.T) {
	s := empty(t, 16)
	all := noise(1, 5*room)
	appended(t, s, all)
	cut(t, s, Span{7, 200})
	all = without(all, Span{7, 200})
	counts := map[int]bool{0: true, 1: true, s.layout.tableAt(s.mark.turn): true}
	for _, p := range s.pages {
		counts[p.sector] = true
	}
	for bit := range uint(16 * api.SectorSize * 8) {
		at := int(bit / 8 / api.SectorSize)
		d := s.device.Copy()
		d.Flip(bit)
		_, got, err := Open(d)
		var where *api.SectorError
		switch {
		case counts[at] && errors.As(err, &where) && where.Sector == at && where.Err == api.ErrCorrupt:
		case !counts[at] && err == nil && bytes.Equal(got, all):
		default:
			t.Fatalf("bit %d of sector %d: %d bytes, %v", bit, at, len(got), err)
		}
	}
}

// P14: what is read is not what was written.
func TestReadOfAFlippedSector(t *testing.T) {
	s := empty(t, 16)
	appended(t, s, noise(1, 3*room))
	bad := s.pages[1].sector
	s.device.Flip(uint(bad*api.SectorSize*8 + 500))
	into := make([]byte, 2*room)
	for what, err := range map[string]error{
		"Read": s.Read(0, into),
		"Cut":  s.Cut([]Span{{room + 5, 3}}),
	} {
		var where *api.SectorError
		if !errors.As(err, &where) || where.Sector != bad || where.Err != api.ErrCorrupt {
			t.Errorf("%s: %v", what, err)
		}
	}
	if err := s.Read(0, into[:room]); err != nil {
		t.Errorf("the page ahead of it: %v", err)
	}
}
