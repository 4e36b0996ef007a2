package journal

import (
	"bytes"
	"errors"
	"fmt"
	"slices"
	"testing"

	"versions/api"
)

// filled is a change of n bytes, none of them 0, which begins with its name.
func filled(name byte, n int) []byte { return bytes.Repeat([]byte{name}, n) }

// names goes through the changes on a device and tells their first bytes.
func names(d *api.Device) (string, *Journal, error) {
	var all []byte
	j, err := Open(d, func(_ int, change []byte) error {
		all = append(all, change[0])
		return nil
	})
	return string(all), j, err
}

// opened is a journal over a device that can be opened.
func opened(t *testing.T, d *api.Device) *Journal {
	t.Helper()
	_, j, err := names(d)
	if err != nil {
		t.Fatal(err)
	}
	return j
}

func appended(t *testing.T, j *Journal, changes ...[]byte) {
	t.Helper()
	for _, c := range changes {
		if _, err := j.Append(c, 0); err != nil {
			t.Fatal(err)
		}
	}
}

func expectNames(t *testing.T, d *api.Device, want string) {
	t.Helper()
	if got, _, err := names(d); err != nil || got != want {
		t.Fatalf("%q, %v; want %q", got, err, want)
	}
}

func TestAppendAndOpen(t *testing.T) {
	d := api.NewDevice(40)
	j := opened(t, d)
	lengths := []int{1, room - 1, room, room + 1, 2 * room, 2*room + 1, 5*room - 3}
	var places []int
	for i, n := range lengths {
		place, err := j.Append(filled(byte('a'+i), n), 0)
		if err != nil {
			t.Fatal(err)
		}
		places = append(places, place)
	}
	for i, n := range lengths {
		into := make([]byte, n)
		if err := j.Read(places[i], into); err != nil || !bytes.Equal(into, filled(byte('a'+i), n)) {
			t.Errorf("change %d: %q, %v", i, into, err)
		}
		if err := j.Read(places[i]+n-1, into[:1]); err != nil || into[0] != byte('a'+i) {
			t.Errorf("the last byte of change %d: %q, %v", i, into[:1], err)
		}
	}
	i := 0
	_, err := Open(d, func(place int, change []byte) error {
		rest, ok := bytes.CutPrefix(change, filled(byte('a'+i), lengths[i]))
		if !ok || place != places[i] || !bytes.Equal(rest, make([]byte, len(rest))) {
			t.Errorf("change %d at %d, want %d: %q", i, place, places[i], change)
		}
		i++
		return nil
	})
	if err != nil || i != len(lengths) {
		t.Errorf("%d changes, %v", i, err)
	}
}

func TestOpenWritesNothing(t *testing.T) {
	d := api.NewDevice(16)
	j := opened(t, d)
	if err := j.Sync(); err != nil {
		t.Fatal(err)
	}
	for at := range 16 {
		if s, _ := d.Read(at); s != (api.Sector{}) {
			t.Errorf("sector %d was written", at)
		}
	}
}

// A half of 16 sectors less the slots is 7.
func TestFull(t *testing.T) {
	for _, sectors := range []int{16, 17} {
		d := api.NewDevice(sectors)
		j := opened(t, d)
		appended(t, j, filled('a', 4*room))
		for _, n := range []int{3*room + 1, 100 * room} {
			if place, err := j.Append(filled('b', n), 0); place != 0 || err != api.ErrFull {
				t.Errorf("%d bytes too many: %d, %v", n, place, err)
			}
		}
		appended(t, j, filled('c', 2*room+1))
		if _, err := j.Append([]byte{'d'}, 0); err != api.ErrFull {
			t.Errorf("no sector left: %v", err)
		}
		if err := j.Sync(); err != nil {
			t.Errorf("a full device cannot be synced: %v", err)
		}
		expectNames(t, d, "ac")
		j = opened(t, d)
		if _, err := j.Append([]byte{'d'}, 0); err != api.ErrFull {
			t.Errorf("no sector left, behind Open: %v", err)
		}
		if place, err := j.Replace(filled('e', 7*room+1)); place != 0 || err != api.ErrFull {
			t.Errorf("Replace by what is too long: %d, %v", place, err)
		}
		expectNames(t, d, "ac")
	}
}

// Sectors that must be left free.
func TestAppendLeavesSectorsFree(t *testing.T) {
	j := opened(t, api.NewDevice(16))
	appended(t, j, filled('a', 4*room))
	for leave, n := range []int{3, 2, 1, 0} {
		if place, err := j.Append(filled('b', n*room+1), leave); place != 0 || err != api.ErrFull {
			t.Errorf("%d sectors, and %d left free: %d, %v", n+1, leave, place, err)
		}
	}
	for _, leave := range []int{2, 1, 0} {
		if _, err := j.Append(filled('b', room), leave); err != nil {
			t.Errorf("%d left free: %v", leave, err)
		}
	}
}

// An error of the one who goes through the changes gets the sector's number.
func TestOpenLocatesErrors(t *testing.T) {
	d := api.NewDevice(16)
	appended(t, opened(t, d), filled('a', 2*room), filled('b', 1))
	_, err := Open(d, func(_ int, change []byte) error {
		if change[0] == 'b' {
			return api.ErrCorrupt
		}
		return nil
	})
	var at *api.SectorError
	if !errors.As(err, &at) || at.Sector != slots+2 || at.Err != api.ErrCorrupt {
		t.Errorf("%v", err)
	}
}

// play appends changes of some lengths, each named by the next letter, and syncs behind every other one. It tells how many were appended, and how many of them are safe.
func play(j *Journal, from byte, lengths []int) (done, safe int, err error) {
	for i, n := range lengths {
		if _, err := j.Append(filled(from+byte(i), n), 0); err != nil {
			return done, safe, err
		}
		done++
		if i%2 == 1 {
			if err := j.Sync(); err != nil {
				return done, safe, err
			}
			safe = done
		}
	}
	return done, safe, nil
}

// keeps are some choices of what a crash leaves.
var keeps = []uint64{0, 1<<64 - 1, 0x5555555555555555, 0xaaaaaaaaaaaaaaaa, 1, 2, 4, 8, 6, 12, 0xfffffffffffffffe, 0x9249249249249249, 0x0f0f0f0f0f0f0f0f}

// expectPrefix tells the changes that are there: the first so many of all, and at least the safe ones.
func expectPrefix(t *testing.T, what string, d *api.Device, all string, safe int) string {
	t.Helper()
	got, _, err := names(d)
	if err != nil || len(got) > len(all) || got != all[:len(got)] || len(got) < safe {
		t.Fatalf("%s: %q, %v; want the first of %q, at least %d", what, got, err, all, safe)
	}
	return got
}

// P13: the power is cut at each operation, and the crash leaves this or that; then once more, in the next journal over the device.
func TestCrashes(t *testing.T) {
	first, second := []int{10, 2 * room, room, 3*room + 1, 5, 7}, []int{room + 1, 20, 4 * room, 1}
	for cut := 0; ; cut++ {
		finished := false
		for _, keep := range keeps {
			d := api.NewDevice(40)
			j := opened(t, d)
			d.Cut(cut)
			done, safe, err := play(j, 'a', first)
			finished = err == nil
			d.Crash(keep)
			what := fmt.Sprintf("cut %d, keep %x", cut, keep)
			got := expectPrefix(t, what, d, "abcdef"[:min(done+1, 6)], safe)
			crashAgain(t, what, d, got, second)
		}
		if finished {
			return
		}
	}
}

// crashAgain goes on over a device on which these changes are.
func crashAgain(t *testing.T, what string, before *api.Device, there string, lengths []int) {
	t.Helper()
	for cut := 0; ; cut++ {
		finished := false
		for _, keep := range keeps {
			d := before.Copy()
			j := opened(t, d)
			d.Cut(cut)
			done, safe, err := play(j, 'u', lengths)
			finished = err == nil
			d.Crash(keep)
			expectPrefix(t, fmt.Sprintf("%s; cut %d, keep %x", what, cut, keep), d, there+"uvwx"[:min(done+1, 4)], len(there)+safe)
		}
		if finished {
			return
		}
	}
}

// P13: a change that a crash left, without the one ahead of it, must not come up again when that one is written again, to the byte.
func TestWhatACrashLeftStaysAway(t *testing.T) {
	d := api.NewDevice(16)
	appended(t, opened(t, d), filled('a', 9), filled('b', 9))
	d.Crash(2)
	expectNames(t, d, "")
	for range 3 {
		j := opened(t, d)
		appended(t, j, filled('a', 9))
		expectNames(t, d, "a")
		d.Crash(0)
		expectNames(t, d, "")
	}
	j := opened(t, d)
	appended(t, j, filled('a', 9))
	if err := j.Sync(); err != nil {
		t.Fatal(err)
	}
	expectNames(t, d, "a")
}

// P13: two halves of changes, written by two journals, are no change.
func TestHalvesDoNotMeet(t *testing.T) {
	d := api.NewDevice(16)
	appended(t, opened(t, d), filled('a', 2*room))
	d.Crash(1)
	expectNames(t, d, "")
	appended(t, opened(t, d), filled('b', 2*room))
	d.Crash(2)
	expectNames(t, d, "")
	appended(t, opened(t, d), filled('c', 2*room))
	expectNames(t, d, "c")
}

// P13: once the power was cut, all answer so, even if there is power again.
func TestPowerStaysCut(t *testing.T) {
	d := api.NewDevice(16)
	j := opened(t, d)
	appended(t, j, filled('a', 9))
	d.Cut(0)
	if err := j.Read(slots*room, make([]byte, 1)); !errors.Is(err, api.ErrPower) {
		t.Errorf("Read: %v", err)
	}
	d.Crash(1<<64 - 1)
	for range 2 {
		if place, err := j.Append(filled('b', 9), 0); place != 0 || !errors.Is(err, api.ErrPower) {
			t.Errorf("Append: %d, %v", place, err)
		}
		if err := j.Sync(); !errors.Is(err, api.ErrPower) {
			t.Errorf("Sync: %v", err)
		}
	}
	expectNames(t, d, "a")
	d.Cut(1)
	if got, j, err := names(d); got != "" || j != nil || !errors.Is(err, api.ErrPower) {
		t.Errorf("Open: %q, %v, %v", got, j, err)
	}
}

// P13: a Sync that has nothing to do answers it too.
func TestSyncOfNothingWithoutPower(t *testing.T) {
	d := api.NewDevice(16)
	j := opened(t, d)
	appended(t, j, filled('a', 9))
	for _, j := range []*Journal{j, opened(t, api.NewDevice(16))} {
		if err := j.Sync(); err != nil {
			t.Fatal(err)
		}
		j.device.Cut(0)
		if err := j.Sync(); !errors.Is(err, api.ErrPower) {
			t.Errorf("Sync: %v", err)
		}
	}
}

// A journal whose changes a crash took away must not say that they are safe.
func TestSyncBehindACrash(t *testing.T) {
	for _, keep := range []uint64{0, 1, 2, 5} {
		d := api.NewDevice(16)
		j := opened(t, d)
		appended(t, j, filled('a', 9))
		if err := j.Sync(); err != nil {
			t.Fatal(err)
		}
		appended(t, j, filled('b', 9), filled('c', 9), filled('d', 9))
		d.Crash(keep)
		want := map[uint64]string{0: "a", 1: "ab", 2: "a", 5: "ab"}[keep]
		expectNames(t, d, want)
		for range 2 {
			if err := j.Sync(); !errors.Is(err, api.ErrCorrupt) {
				t.Errorf("Sync: %v", err)
			}
		}
		expectNames(t, d, want)
	}
}

// Nor must it, where an older crash left something at that place.
func TestSyncBehindTwoCrashes(t *testing.T) {
	d := api.NewDevice(16)
	appended(t, opened(t, d), filled('a', 2*room))
	d.Crash(1)
	j := opened(t, d)
	appended(t, j, filled('b', 9))
	d.Crash(0)
	if err := j.Sync(); !errors.Is(err, api.ErrCorrupt) {
		t.Errorf("Sync: %v", err)
	}
	expectNames(t, d, "")
}

// P14: where a bit of what is safe is turned about, that is told, with the sector's number; else it does no harm.
func TestFlips(t *testing.T) {
	d := api.NewDevice(16)
	j := opened(t, d)
	appended(t, j, filled('a', 3*room), filled('b', 9))
	if err := j.Sync(); err != nil {
		t.Fatal(err)
	}
	appended(t, j, filled('c', 2*room))
	const safe = slots + 4
	expectFlips(t, d, func(at int) string {
		switch {
		case at < safe:
			return corrupt
		case at < j.end:
			return "ab"
		}
		return "abc"
	})
}

// corrupt stands for the error, where there would be names.
const corrupt = "corrupt"

// expectFlips turns each bit about once: what there is then hangs on the sector; where that is an error, it has the sector's number.
func expectFlips(t *testing.T, d *api.Device, want func(at int) string) {
	t.Helper()
	for bit := range uint(d.Sectors() * api.SectorSize * 8) {
		at := int(bit / 8 / api.SectorSize)
		e := d.Copy()
		e.Flip(bit)
		got, _, err := names(e)
		var where *api.SectorError
		if errors.As(err, &where) && where.Sector == at && where.Err == api.ErrCorrupt {
			got, err = corrupt, nil
		}
		if err != nil || got != want(at) {
			t.Fatalf("bit %d of sector %d: %q, %v", bit, at, got, err)
		}
	}
}

// P14: what is read is not what was written.
func TestReadOfAFlippedSector(t *testing.T) {
	d := api.NewDevice(16)
	j := opened(t, d)
	appended(t, j, filled('a', 2*room))
	d.Flip((slots+1)*api.SectorSize*8 + 200)
	into := make([]byte, 2*room)
	var where *api.SectorError
	if err := j.Read(slots*room, into); !errors.As(err, &where) || where.Sector != slots+1 || where.Err != api.ErrCorrupt {
		t.Errorf("%v", err)
	}
	if err := j.Read(slots*room, into[:room]); err != nil {
		t.Errorf("the sector ahead of it: %v", err)
	}
}

// P1: marks that no journal wrote.
func TestMarksThatCannotBe(t *testing.T) {
	for what, marks := range map[string][]mark{
		"too far on":             {{turn: 3, safe: slots}},
		"one that is missing":    {{turn: 2, safe: slots}},
		"two that do not follow": {{turn: 5, safe: slots}, {turn: 8, safe: slots}},
		"safe within the slots":  {{turn: 1, safe: 1}},
		"safe beyond the half":   {{turn: 1, safe: slots + 8}},
		"safe below the half":    {{turn: 1, half: 1, safe: slots + 6}},
		"safe beyond the device": {{turn: 1, half: 1, safe: 17}},
		"safe below 0":           {{turn: 1, safe: -1}},
		"safe, and not there":    {{turn: 1, safe: slots + 1}},
		"a half that is none":    {{turn: 1, half: 2, safe: slots + 14}},
	} {
		d := api.NewDevice(16)
		for _, m := range marks {
			d.Write(m.slot(), m.sector())
		}
		if got, j, err := names(d); got != "" || j != nil || !errors.Is(err, api.ErrCorrupt) {
			t.Errorf("%s: %q, %v, %v", what, got, j, err)
		}
	}
	d := api.NewDevice(16)
	d.Write(0, mark{turn: 0, safe: slots}.sector())
	if _, _, err := names(d); !errors.Is(err, api.ErrCorrupt) {
		t.Errorf("a mark of the turn 0: %v", err)
	}
	d = api.NewDevice(16)
	d.Write(0, sealed(0, mark{turn: 1, safe: slots}.sector()))
	if _, _, err := names(d); !errors.Is(err, api.ErrCorrupt) {
		t.Errorf("a mark in the other's slot: %v", err)
	}
}

// P1: changes that no journal wrote: one that goes on beyond the device, and one with a stamp that is yet to come.
func TestChangesThatCannotBe(t *testing.T) {
	const last = slots + 6 // of the first half
	d := api.NewDevice(16)
	appended(t, opened(t, d), filled('a', 6*room))
	endless, early := leaf{stamp: 1, more: true}, leaf{stamp: 2}
	for _, l := range []leaf{endless, early} {
		d.Write(last, l.sector(last))
		d.Write(last+1, l.sector(last+1))
		expectNames(t, d, "a")
	}
	right := leaf{stamp: 1, data: [room]byte{'b'}}
	d.Write(last, right.sector(last))
	d.Write(last+1, right.sector(last+1))
	expectNames(t, d, "ab")
	d.Write(last, right.sector(last-1))
	expectNames(t, d, "a")
}

// What is handed to Append is not kept, nor written into.
func TestAppendLeavesDataAlone(t *testing.T) {
	d := api.NewDevice(16)
	j := opened(t, d)
	data := filled('a', 3*room)
	before := slices.Clone(data)
	place, err := j.Append(data[:room+1], 0)
	if err != nil || !slices.Equal(data, before) {
		t.Fatalf("the data was written into, or %v", err)
	}
	clear(data)
	into := make([]byte, room+1)
	if err := j.Read(place, into); err != nil || !bytes.Equal(into, before[:room+1]) {
		t.Errorf("%q, %v", into, err)
	}
}
