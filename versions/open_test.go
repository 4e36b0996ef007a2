package versions_test

import (
	"math"
	"testing"

	"versions/api"
	"versions/versions"
)

// P4: how many sectors a device must have.
func TestOpenBySectors(t *testing.T) {
	for _, n := range []int{0, 1, 2, 14, 15} {
		a, err := versions.Open(api.NewDevice(n), plenty)
		if a != nil {
			t.Errorf("%d sectors: an archive beside an error", n)
		}
		expectError(t, "a device that is too small", err, api.ErrDevice)
	}
	for _, n := range []int{16, 17, 18, 33, 1000} {
		d := api.NewDevice(n)
		a := opened(t, d, plenty)
		expectList(t, a, "")
		expectPut(t, a, "a", []byte("one"), 1)
		if err := a.Close(); err != nil {
			t.Errorf("%d sectors: %v", n, err)
		}
		expectGet(t, opened(t, d, 0), "a", 0, []byte("one"))
	}
}

// P1: a device that is none is no device with sectors.
func TestOpenOfNoDevice(t *testing.T) {
	a, err := versions.Open(nil, 1)
	if a != nil {
		t.Error("an archive beside an error")
	}
	expectError(t, "no device", err, api.ErrDevice)
}

// P1, P4: ErrDevice is told ahead of what is on the device.
func TestOpenOfASmallDeviceWithBytes(t *testing.T) {
	d := api.NewDevice(15)
	for at := range 15 {
		d.Write(at, api.Sector(noise(uint32(at), api.SectorSize)))
	}
	_, err := versions.Open(d, 1)
	expectError(t, "a small device with bytes", err, api.ErrDevice)
	d.Cut(0)
	_, err = versions.Open(d, 1)
	expectError(t, "a small device without power", err, api.ErrDevice)
}

// P4: a quota may be less than what is there.
func TestOpenWithQuota(t *testing.T) {
	d := api.NewDevice(100)
	a := opened(t, d, 10)
	expectPut(t, a, "a", []byte("0123456789"), 1)
	a.Close()
	for _, quota := range []int{0, 9, -1, math.MinInt} {
		a := opened(t, d, quota)
		expectGet(t, a, "a", 1, []byte("0123456789"))
		expectNoPut(t, a, "b", nil, api.ErrQuota)
		expectNoPut(t, a, "b", []byte("1"), api.ErrQuota)
		a.Close()
	}
	a = opened(t, d, 10)
	expectNoPut(t, a, "b", []byte("1"), api.ErrQuota)
	expectPut(t, a, "b", nil, 1)
	a.Close()
	a = opened(t, d, math.MaxInt)
	expectPut(t, a, "b", []byte("1"), 2)
}

// P4: a quota below 0 counts as 0: nothing but empty contents.
func TestOpenWithQuotaBelow0(t *testing.T) {
	for _, quota := range []int{0, -1, -5, math.MinInt} {
		a := opened(t, api.NewDevice(16), quota)
		expectNoPut(t, a, "a", []byte("1"), api.ErrQuota)
		expectPut(t, a, "a", nil, 1)
		expectPut(t, a, "a", []byte{}, 2)
	}
}

// P2: what Open gives hangs on the device's bytes and the quota alone: a copy gives the same, and Open changes nothing.
func TestOpenOfACopy(t *testing.T) {
	d := api.NewDevice(200)
	a := opened(t, d, plenty)
	m := newModel()
	for i := range 12 {
		content := noise(uint32(i%5), i*90)
		expectPut(t, a, string(rune('a'+i%3)), content, m.put(string(rune('a'+i%3)), content))
	}
	for _, o := range []op{
		{call: "Tag", name: "t", path: "a", number: 2}, {call: "Tag", name: "u", path: "b"}, {call: "Prune", path: "a", number: 1},
		{call: "Delete", path: "c", number: 2}, {call: "Untag", name: "u"}, {call: "Tag", name: "v", path: "a", number: 2},
	} {
		expectAnswer(t, "ahead of a copy", a, m, o)
	}
	unsafe := d.Copy()
	a.Close()
	m.free()
	for _, d := range []*api.Device{d, d.Copy(), unsafe, unsafe.Copy()} {
		for range 2 {
			a := opened(t, d, plenty)
			expectSame(t, "a copy", a, m)
			a.Close()
		}
	}
}
