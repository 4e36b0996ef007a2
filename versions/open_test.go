package versions_test

import (
	"math"
	"math/rand"
	"slices"
	"testing"

	"versions/api"
	"versions/record"
	"versions/store"
	"versions/versions"
)

// P4: how many sectors a device must have.
func TestOpenBySectors(t *testing.T) {
	for _, n := range []int{0, 1, 2, 14, 15} {
		a, err := versions.Open(api.NewDevice(n), plenty)
		if a != nil {
			t.Errorf("%d sectors: an archive beside an error", n)
		}
		expectError(t, "a device that is too small", err, api.ErrDevice)
	}
	for _, n := range []int{16, 17, 18, 33, 1000} {
		d := api.NewDevice(n)
		a := opened(t, d, plenty)
		expectList(t, a, "")
		expectPut(t, a, "a", []byte("one"), 1)
		if err := a.Close(); err != nil {
			t.Errorf("%d sectors: %v", n, err)
		}
		expectGet(t, opened(t, d, 0), "a", 0, []byte("one"))
	}
}

// P1: a device that is none is no device with sectors.
func TestOpenOfNoDevice(t *testing.T) {
	a, err := versions.Open(nil, 1)
	if a != nil {
		t.Error("an archive beside an error")
	}
	expectError(t, "no device", err, api.ErrDevice)
}

// P1, P4: ErrDevice is told ahead of what is on the device.
func TestOpenOfASmallDeviceWithBytes(t *testing.T) {
	d := api.NewDevice(15)
	for at := range 15 {
		d.Write(at, api.Sector(noise(uint32(at), api.SectorSize)))
	}
	_, err := versions.Open(d, 1)
	expectError(t, "a small device with bytes", err, api.ErrDevice)
	d.Cut(0)
	_, err = versions.Open(d, 1)
	expectError(t, "a small device without power", err, api.ErrDevice)
}

// P4: a quota may be less than what is there.
func TestOpenWithQuota(t *testing.T) {
	d := api.NewDevice(100)
	a := opened(t, d, 10)
	expectPut(t, a, "a", []byte("0123456789"), 1)
	a.Close()
	for _, quota := range []int{0, 9, -1, math.MinInt} {
		a := opened(t, d, quota)
		expectGet(t, a, "a", 1, []byte("0123456789"))
		expectNoPut(t, a, "b", nil, api.ErrQuota)
		expectNoPut(t, a, "b", []byte("1"), api.ErrQuota)
		a.Close()
	}
	a = opened(t, d, 10)
	expectNoPut(t, a, "b", []byte("1"), api.ErrQuota)
	expectPut(t, a, "b", nil, 1)
	a.Close()
	a = opened(t, d, math.MaxInt)
	expectPut(t, a, "b", []byte("1"), 2)
}

// P4: a quota below 0 counts as 0: nothing but empty contents.
func TestOpenWithQuotaBelow0(t *testing.T) {
	for _, quota := range []int{0, -1, -5, math.MinInt} {
		a := opened(t, api.NewDevice(16), quota)
		expectNoPut(t, a, "a", []byte("1"), api.ErrQuota)
		expectPut(t, a, "a", nil, 1)
		expectPut(t, a, "a", []byte{}, 2)
	}
}

// useAll makes all calls on an archive: none must panic.
func useAll(a *versions.Archive) {
	entries, _ := a.List("")
	for _, e := range entries {
		numbers, _ := a.Versions(e.Path)
		for _, n := range numbers {
			a.Get(e.Path, n)
			a.ReadAt(e.Path, n, 3, math.MaxInt)
		}
		a.Put(e.Path, noise(9, 700))
		a.Tag("new", e.Path, 0)
		a.Delete(e.Path, 0)
		a.Prune(e.Path, 1)
	}
	a.Put("new", noise(9, 700))
	pins, _ := a.Tags()
	for _, pin := range pins {
		a.Untag(pin.Tag)
	}
	a.Stored()
	a.Collect()
	a.Put("new", noise(9, 700))
	a.Sync()
	a.Close()
}

// expectOpenEnds opens a device of any bytes, which must go well or answer ErrCorrupt, and uses what it gives.
func expectOpenEnds(t testing.TB, what string, d *api.Device) {
	t.Helper()
	a, err := versions.Open(d, plenty)
	if (a == nil) != (err != nil) || err != nil && api.Tell(err) != api.ErrCorrupt {
		t.Fatalf("%s: %v, %v", what, a, err)
	}
	if a != nil {
		useAll(a)
	}
}

// P1: devices of all kinds of bytes.
func TestOpenOfAnyBytes(t *testing.T) {
	for seed := range uint32(200) {
		d := api.NewDevice(20)
		for at := int(seed % 4); at < 20; at++ {
			d.Write(at, api.Sector(noise(seed*100+uint32(at), api.SectorSize)))
		}
		expectOpenEnds(t, "noise", d)
	}
	for b := range 256 {
		d := api.NewDevice(20)
		for at := range 20 {
			var s api.Sector
			for i := range s {
				s[i] = byte(b)
			}
			d.Write(at, s)
		}
		expectOpenEnds(t, "one byte all over", d)
	}
}

// P1: an archive's sectors, some of them at other places, missing, or with other bytes.
func TestOpenOfShuffledSectors(t *testing.T) {
	d := api.NewDevice(60)
	a := opened(t, d, plenty)
	for i := range 8 {
		expectPut(t, a, "a", noise(uint32(i/2), 300+i), i+1)
		if i%3 == 0 {
			a.Sync()
		}
		if i == 3 {
			expectTag(t, a, "t", "a", 2, api.OK)
			collected(t, a)
		}
	}
	expectPrune(t, a, "a", 2, 5)
	a.Close()
	r := rand.New(rand.NewSource(1))
	for range 2000 {
		e := d.Copy()
		for range 1 + r.Intn(3) {
			from, to := r.Intn(60), r.Intn(60)
			s, _ := d.Read(from)
			switch r.Intn(4) {
			case 0:
				s[r.Intn(api.SectorSize)]++
				to = from
			case 1:
				clear(s[:])
			}
			e.Write(to, s)
		}
		expectOpenEnds(t, "shuffled sectors", e)
	}
}

// written is a device with records of these bytes on it.
func written(t testing.TB, records []byte) *api.Device {
	t.Helper()
	d := api.NewDevice(200)
	s, _, err := store.Open(d)
	if err != nil {
		t.Fatal(err)
	}
	s.Append(records, 0)
	return d
}

// P1: records that have their sums, but that no archive wrote.
func FuzzOpen(f *testing.F) {
	records := record.AppendChunk(nil, 7, []byte("abc"))
	records = record.AppendVersion(records, 0, "p", 1, []uint32{7, 7})
	f.Add(slices.Clone(records))
	f.Add(record.AppendVersion(slices.Clone(records), 3, "p", math.MaxInt32, []uint32{7}))
	f.Add(record.AppendVersion(slices.Clone(records), 0, "p", 1, nil))
	f.Add(noise(3, 100))
	records = record.AppendTag(record.AppendVersion(records, 2, "p", 2, nil), "t", 0)
	f.Add(slices.Clone(records))
	records = record.AppendPrune(records, "p", 0)
	f.Add(slices.Clone(records))
	f.Add(record.AppendPrune(record.AppendVersion(records, 1, "p", 3, nil), "p", 1))
	f.Fuzz(func(t *testing.T, records []byte) {
		expectOpenEnds(t, "any records", written(t, records))
	})
}

// P1, P5: behind the greatest number that there is room for there is none.
func TestPutBehindTheGreatestNumber(t *testing.T) {
	a := opened(t, written(t, record.AppendVersion(nil, 0, "p", math.MaxInt32-1, nil)), plenty)
	expectPut(t, a, "p", []byte("x"), math.MaxInt32)
	expectNoPut(t, a, "p", []byte("x"), api.ErrFull)
	expectVersions(t, a, "p", math.MaxInt32-1, math.MaxInt32)
	expectPut(t, a, "q", []byte("x"), 1)
}

// P2: what Open gives hangs on the device's bytes and the quota alone: a copy gives the same, and Open changes nothing.
func TestOpenOfACopy(t *testing.T) {
	d := api.NewDevice(200)
	a := opened(t, d, plenty)
	m := newModel()
	for i := range 12 {
		content := noise(uint32(i%5), i*90)
		expectPut(t, a, string(rune('a'+i%3)), content, m.put(string(rune('a'+i%3)), content))
	}
	for _, o := range []op{
		{call: "Tag", name: "t", path: "a", number: 2}, {call: "Tag", name: "u", path: "b"}, {call: "Prune", path: "a", number: 1},
		{call: "Delete", path: "c", number: 2}, {call: "Untag", name: "u"}, {call: "Tag", name: "v", path: "a", number: 2},
	} {
		expectAnswer(t, "ahead of a copy", a, m, o)
	}
	unsafe := d.Copy()
	a.Close()
	m.free()
	for _, d := range []*api.Device{d, d.Copy(), unsafe, unsafe.Copy()} {
		for range 2 {
			a := opened(t, d, plenty)
			expectSame(t, "a copy", a, m)
			a.Close()
		}
	}
}
