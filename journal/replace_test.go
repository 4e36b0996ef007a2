package journal

import (
	"bytes"
	"errors"
	"fmt"
	"testing"

	"versions/api"
)

// replaced puts a change in the stead of all others, and tells its place.
func replaced(t *testing.T, j *Journal, data []byte) int {
	t.Helper()
	place, err := j.Replace(data)
	if err != nil {
		t.Fatal(err)
	}
	return place
}

// Again and again, from half to half, with changes behind it.
func TestReplace(t *testing.T) {
	d := api.NewDevice(17)
	j := opened(t, d)
	for i := range 6 {
		appended(t, j, filled('a', 1), filled('b', room+1))
		data := filled('r', i*room+i)
		place := replaced(t, j, data)
		into := make([]byte, len(data))
		if err := j.Read(place, into); err != nil || !bytes.Equal(into, data) {
			t.Errorf("Replace %d: %.20q, %v", i, into, err)
		}
		want := "r"
		if i == 0 {
			want = "\x00"
		}
		expectNames(t, d, want)
		d.Crash(0) // it is safe
		expectNames(t, d, want)
		if i%2 == 0 {
			j = opened(t, d)
		}
		replaced(t, j, nil)
		expectNames(t, d, "\x00")
	}
}

// Changes behind a Replace are changes as others are, and where the half's end is they are refused.
func TestAppendBehindReplace(t *testing.T) {
	d := api.NewDevice(16)
	j := opened(t, d)
	for range 3 {
		replaced(t, j, filled('r', 2*room))
		appended(t, j, filled('a', room), filled('b', 2*room), filled('c', 2*room))
		if _, err := j.Append([]byte{'d'}, 0); err != api.ErrFull {
			t.Errorf("no sector left: %v", err)
		}
		expectNames(t, d, "rabc")
		if err := j.Sync(); err != nil {
			t.Error(err)
		}
		expectNames(t, d, "rabc")
	}
}

func TestShrinks(t *testing.T) {
	j := opened(t, api.NewDevice(20))
	if j.Shrinks(nil) {
		t.Error("there is nothing to shrink")
	}
	for half := range 3 {
		appended(t, j, filled('a', 1), filled('b', room+1))
		least := 3 + min(half, 1) // a change without bytes has a sector too
		for n, want := range map[int]bool{0: true, 1: true, (least - 1) * room: true, (least-1)*room + 1: false, 9 * room: false} {
			if j.Shrinks(filled('r', n)) != want {
				t.Errorf("%d, %d bytes: %v", half, n, !want)
			}
		}
		replaced(t, j, nil)
	}
}

// What was in a half before it was taken again does not come up behind what is there now.
func TestWhatAHalfHadStaysAway(t *testing.T) {
	for _, again := range []bool{false, true} {
		d := api.NewDevice(16)
		j := opened(t, d)
		appended(t, j, filled('a', 1), filled('b', 1), filled('c', 1), filled('d', 1))
		for range 3 {
			replaced(t, j, filled('r', 1))
			expectNames(t, d, "r")
			if again {
				j = opened(t, d)
			}
			appended(t, j, filled('s', 1))
			expectNames(t, d, "rs")
			d.Crash(0)
			expectNames(t, d, "r")
			j = opened(t, d)
			appended(t, j, filled('t', 1), filled('u', 1))
			expectNames(t, d, "rtu")
		}
	}
}

// renew appends changes, replaces all, appends one, replaces all, and appends one. It tells what was there behind each step, at first what is there, and how many of the steps are safe.
func renew(j *Journal, there string) (states []string, safe int, err error) {
	states = []string{there}
	for i, step := range []string{"a", "b", "R", "c", "S", "d"} {
		data := filled(step[0], 1+i*(room/2))
		if step >= "a" {
			there += step
			_, err = j.Append(data, 0)
		} else {
			there = step
			_, err = j.Replace(data)
		}
		states = append(states, there)
		if err != nil {
			return states, safe, err
		}
		if step < "a" {
			safe = len(states) - 1
		}
	}
	return states, safe, nil
}

// expectOneOf tells what is there: one of the states.
func expectOneOf(t *testing.T, what string, d *api.Device, states []string) string {
	t.Helper()
	got, _, err := names(d)
	for _, s := range states {
		if err == nil && got == s {
			return got
		}
	}
	t.Fatalf("%s: %q, %v; want one of %q", what, got, err, states)
	return ""
}

// P13: the power is cut at each operation of a Replace too, and then once more in the next journal.
func TestCrashesOfReplace(t *testing.T) {
	cutAll(t, "", api.NewDevice(26), "", func(what string, d *api.Device, there string) {
		cutAll(t, what, d, there, func(string, *api.Device, string) {})
	})
}

// cutAll plays renew over copies of a device, with the power cut at each operation, and hands on what a crash leaves.
func cutAll(t *testing.T, what string, before *api.Device, there string, then func(string, *api.Device, string)) {
	t.Helper()
	for cut := 0; ; cut++ {
		finished := false
		for _, keep := range []uint64{0, 1<<64 - 1, 0x5555555555555555, 0xaaaaaaaaaaaaaaaa, 1, 6} {
			d := before.Copy()
			j := opened(t, d)
			d.Cut(cut)
			states, safe, err := renew(j, there)
			finished = err == nil
			if !finished && (!errors.Is(err, api.ErrPower) || !errors.Is(j.Fault(), api.ErrPower)) {
				t.Fatalf("%s; cut %d: %v, %v", what, cut, err, j.Fault())
			}
			d.Crash(keep)
			what := fmt.Sprintf("%s; cut %d, keep %x", what, cut, keep)
			then(what, d, expectOneOf(t, what, d, states[safe:]))
		}
		if finished {
			return
		}
	}
}

// P14: a bit that is turned about in what is safe is told, wherever the changes are; what the other half has does no harm.
func TestFlipsBehindReplace(t *testing.T) {
	d := api.NewDevice(16)
	j := opened(t, d)
	appended(t, j, filled('a', 2*room))
	replaced(t, j, filled('r', 3*room))
	if err := j.Sync(); err != nil {
		t.Fatal(err)
	}
	const begin = slots + 7
	expectFlips(t, d, func(at int) string {
		if at < slots || at >= begin && at < begin+3 {
			return corrupt
		}
		return "r"
	})
}

// P13: a Replace without power changes nothing, even if there is power again.
func TestReplaceWithoutPower(t *testing.T) {
	d := api.NewDevice(16)
	j := opened(t, d)
	appended(t, j, filled('a', 9))
	d.Cut(0)
	for range 2 {
		if place, err := j.Replace(filled('r', 9)); place != 0 || !errors.Is(err, api.ErrPower) {
			t.Errorf("Replace: %d, %v", place, err)
		}
		d.Crash(1<<64 - 1)
	}
	if err := j.Sync(); !errors.Is(err, api.ErrPower) {
		t.Errorf("Sync: %v", err)
	}
	expectNames(t, d, "a")
}

// What is handed to Replace is not kept, nor written into.
func TestReplaceLeavesDataAlone(t *testing.T) {
	d := api.NewDevice(16)
	j := opened(t, d)
	data := filled('a', 3*room)
	place := replaced(t, j, data[:room+1])
	if !bytes.Equal(data, filled('a', 3*room)) {
		t.Error("the data was written into")
	}
	clear(data)
	into := make([]byte, room+1)
	if err := j.Read(place, into); err != nil || !bytes.Equal(into, filled('a', room+1)) {
		t.Errorf("%q, %v", into, err)
	}
}
