package versions_test

import (
	"fmt"
	"math"
	"math/rand"
	"slices"
	"testing"

	"versions/api"
	"versions/pack"
	"versions/record"
	"versions/store"
	"versions/versions"
)

// checker opens devices of any bytes, one behind the other.
type checker struct {
	t        testing.TB
	r        *rand.Rand
	every    int  // of so many archives one is asked everything
	room     bool // whether the devices have room for all that is done
	archives int  // how many devices could be opened
}

func newChecker(t testing.TB, every int) *checker {
	return &checker{t: t, r: rand.New(rand.NewSource(1)), every: every}
}

// check opens a device: that must go well, or answer ErrCorrupt and give nothing. An archive that it gives is used.
func (c *checker) check(what string, d *api.Device) {
	c.t.Helper()
	a, err := versions.Open(d, plenty)
	if (a == nil) != (err != nil) || err != nil && api.Tell(err) != api.ErrCorrupt {
		c.t.Fatalf("%s: %v, %v", what, a, err)
	}
	if a == nil {
		return
	}
	if c.archives++; c.archives%c.every == 0 {
		quiz{t: c.t, what: what}.all(a, d)
		return
	}
	c.use(what, a, d)
}

// use makes calls of all kinds on an archive, which must answer what a model of it does, and opens it again.
func (c *checker) use(what string, a *versions.Archive, d *api.Device) {
	c.t.Helper()
	m := copied(c.t, d)()
	for range 15 {
		o := randomOp(c.r, 300).near(m)
		after := m.clone()
		want, errno := after.do(o)
		got, err := o.on(a)
		switch {
		case !c.room && api.Tell(err) == api.ErrFull && got == 0 && errno == api.OK:
		case api.Tell(err) == errno && got == want:
			m = after
		default:
			c.t.Fatalf("%s: %v: %d, %v, want %d, error %d", what, o, got, err, want, errno)
		}
	}
	expectError(c.t, what+": Collect", a.Collect(), api.OK)
	if got := tell(c.t, reopened(c.t, a, d, plenty)); got != m.tell() {
		c.t.Fatalf("%s, used: %.3000q\nwant\n%.3000q", what, got, m.tell())
	}
}

// expectArchives: at least so many devices could be opened.
func (c *checker) expectArchives(least int) {
	c.t.Helper()
	if c.archives < least {
		c.t.Errorf("just %d devices could be opened", c.archives)
	}
}

// P1: sectors with any bytes at all.
func TestAnyBytes(t *testing.T) {
	c := newChecker(t, 5)
	for seed := range uint32(300) {
		d := api.NewDevice(20)
		for at := int(seed % 20); at < 20; at += 1 + int(seed)%3 {
			d.Write(at, api.Sector(noise(seed*100+uint32(at), api.SectorSize)))
		}
		c.check("noise", d)
	}
	for b := range 256 {
		var s api.Sector
		for i := range s {
			s[i] = byte(b)
		}
		d := api.NewDevice(20)
		for at := range 20 {
			d.Write(at, s)
		}
		c.check("one byte all over", d)
	}
	c.expectArchives(50)
}

// life is a device that archives left, and what it was before.
type life struct {
	name   string
	device *api.Device
	older  []*api.Device
}

// any is the device as it is, or as it was some time.
func (l life) any(r *rand.Rand) *api.Device {
	if i := r.Intn(len(l.older) + 1); i < len(l.older) {
		return l.older[i]
	}
	return l.device
}

// lived makes the calls of sessions over a device.
func lived(t testing.TB, name string, d *api.Device, sessions ...[]op) life {
	t.Helper()
	l := life{name, d, []*api.Device{d.Copy()}}
	for _, ops := range sessions {
		a := opened(t, d, plenty)
		for _, o := range ops {
			if _, err := o.on(a); err != nil {
				t.Fatalf("%v: %v", o, err)
			}
			l.older = append(l.older, d.Copy())
		}
		expectError(t, "Close", a.Close(), api.OK)
	}
	return l
}

// lives are some devices that archives left.
func lives(t testing.TB) []life {
	t.Helper()
	full := lived(t, "full", api.NewDevice(api.MinSectors))
	filledUp(t, opened(t, full.device, plenty))
	crashed := lived(t, "crashed", smallDevice(), script())
	a, m := opened(t, crashed.device, plenty), copied(t, crashed.device)()
	crashed.device.Cut(30)
	_, _, err := play(a, m, churn())
	expectError(t, "cut", err, api.ErrPower)
	crashed.device.Crash(0x5555555555555555)
	return []life{
		lived(t, "short", api.NewDevice(api.MinSectors), shortScript()[:6]),
		lived(t, "long", smallDevice(), script(), churn()[:20]),
		full, crashed,
	}
}

func sectorOf(d *api.Device, at int) api.Sector {
	s, _ := d.Read(at)
	return s
}

// with is a copy of a device with a sector written over.
func with(d *api.Device, at int, s api.Sector) *api.Device {
	e := d.Copy()
	e.Write(at, s)
	return e
}

// P1: each sector of a device that archives left is cleared, exchanged for each other one, and written over with each other one and with each older one.
func TestDamagedSectors(t *testing.T) {
	c := newChecker(t, 40)
	for _, l := range lives(t) {
		d, name := l.device, l.name
		for at := range d.Sectors() {
			c.check(fmt.Sprintf("%s, sector %d cleared", name, at), with(d, at, api.Sector{}))
			for from := range d.Sectors() {
				e := with(d, at, sectorOf(d, from))
				c.check(fmt.Sprintf("%s, sector %d written over with %d", name, at, from), e.Copy())
				c.check(fmt.Sprintf("%s, sectors %d and %d exchanged", name, at, from), with(e, from, sectorOf(d, at)))
			}
			for i, older := range l.older {
				c.check(fmt.Sprintf("%s, sector %d as behind call %d", name, at, i), with(d, at, sectorOf(older, at)))
			}
		}
	}
	c.expectArchives(1000)
}

// P1: many sectors at once are older ones, cleared, or others.
func TestManyDamagedSectors(t *testing.T) {
	c := newChecker(t, 40)
	for _, l := range lives(t) {
		for i := range 1500 {
			d := l.any(c.r).Copy()
			for range 1 + c.r.Intn(6) {
				at := c.r.Intn(d.Sectors())
				switch c.r.Intn(5) {
				case 0:
					d.Write(at, api.Sector{})
				case 1:
					d.Write(at, sectorOf(d, c.r.Intn(d.Sectors())))
				default:
					d.Write(at, sectorOf(l.any(c.r), at))
				}
			}
			c.check(fmt.Sprint(l.name, ", round ", i), d)
		}
	}
	c.expectArchives(1000)
}

// resealed gives a sector its sum, as the store does.
func resealed(at int, s api.Sector) api.Sector {
	sum := pack.SumOf(uint32(at), s[pack.SumSize:])
	copy(s[:], sum[:])
	return s
}

// counts tells whether a device can't be opened, when something is wrong in a sector.
func counts(d *api.Device, at int) bool {
	e := d.Copy()
	e.Flip(uint(at * api.SectorSize * 8))
	_, err := versions.Open(e, plenty)
	return err != nil
}

// P1: each byte that counts is another one, and the sector has the sum that fits that.
func TestDamageThatFits(t *testing.T) {
	c := newChecker(t, 40)
	for _, l := range lives(t) {
		d := l.device
		for at := range d.Sectors() {
			if !counts(d, at) {
				continue
			}
			s := sectorOf(d, at)
			if s != resealed(at, s) {
				t.Fatalf("%s: sector %d has another sum", l.name, at)
			}
			for i := pack.SumSize; i < api.SectorSize; i++ {
				wrong := s
				wrong[i] += byte(1 + c.r.Intn(1+c.r.Intn(255)))
				c.check(fmt.Sprintf("%s, sector %d, byte %d: %d", l.name, at, i, wrong[i]), with(d, at, resealed(at, wrong)))
			}
		}
	}
	c.expectArchives(1000)
}

// P1: a great device, each sector of which that was written is cleared, has a wrong byte, and has one with the sum that fits it.
func TestDamageOfAGreatDevice(t *testing.T) {
	d := lived(t, "great", api.NewDevice(1<<16+1), script()).device
	c := newChecker(t, 10)
	for at := range d.Sectors() {
		s := sectorOf(d, at)
		if s == (api.Sector{}) {
			continue
		}
		c.check(fmt.Sprintf("sector %d cleared", at), with(d, at, api.Sector{}))
		s[pack.SumSize+c.r.Intn(9)]++
		c.check(fmt.Sprintf("sector %d with a wrong byte", at), with(d, at, s))
		c.check(fmt.Sprintf("sector %d with a wrong byte, but its sum", at), with(d, at, resealed(at, s)))
	}
	c.expectArchives(10)
}

// written is a device with records of these bytes on it, if they have room there.
func written(t testing.TB, sectors int, records []byte) *api.Device {
	t.Helper()
	d := api.NewDevice(sectors)
	s, _, err := store.Open(d)
	if err != nil {
		t.Fatal(err)
	}
	s.Append(records, 0)
	return d
}

// P1: records that have their sums, but that no archive wrote.
func FuzzOpen(f *testing.F) {
	records := record.AppendChunk(nil, 7, []byte("abc"))
	records = record.AppendVersion(records, 0, "p", 1, []uint32{7, 7})
	f.Add(slices.Clone(records))
	f.Add(record.AppendVersion(slices.Clone(records), 3, "p", math.MaxInt32, []uint32{7}))
	f.Add(record.AppendVersion(slices.Clone(records), 3, "a", math.MaxInt, []uint32{7}))
	f.Add(record.AppendVersion(slices.Clone(records), 0, "p", 1, nil))
	f.Add(noise(3, 100))
	records = record.AppendTag(record.AppendVersion(records, 2, "p", 2, nil), "t", 0)
	f.Add(slices.Clone(records))
	records = record.AppendPrune(records, "p", 0)
	f.Add(slices.Clone(records))
	f.Add(record.AppendPrune(record.AppendVersion(records, 1, "p", 3, nil), "p", 1))
	f.Fuzz(func(t *testing.T, records []byte) {
		newChecker(t, 1+len(records)%5).check("any records", written(t, 200, records))
	})
}

// recordsOf are the records that a device has, each for itself.
func recordsOf(t testing.TB, d *api.Device) [][]byte {
	t.Helper()
	_, rest, err := store.Open(d)
	if err != nil {
		t.Fatal(err)
	}
	var all [][]byte
	for r := range record.All(slices.Clone(rest)) {
		all = append(all, rest[:r.Length()])
		rest = rest[r.Length():]
	}
	return all
}

// P1: the records of an archive, of which some are missing, twice there, exchanged, or have wrong bytes.
func TestWrongRecords(t *testing.T) {
	c := newChecker(t, 40)
	for _, l := range lives(t) {
		for i := range 1500 {
			records := recordsOf(t, l.any(c.r).Copy())
			for range 1 + c.r.Intn(3) {
				if len(records) == 0 {
					break
				}
				at, from := c.r.Intn(len(records)), c.r.Intn(len(records))
				switch c.r.Intn(5) {
				case 0:
					records = slices.Delete(records, at, at+1)
				case 1:
					records = slices.Insert(records, at, records[from])
				case 2:
					records[at], records[from] = records[from], records[at]
				case 3:
					records = slices.Insert(records, at, record.AppendPrune(nil, []string{"a", "b/c", "x"}[c.r.Intn(3)], c.r.Intn(3)))
				default:
					wrong := slices.Clone(records[at])
					wrong[c.r.Intn(len(wrong))] = byte(c.r.Int())
					records[at] = wrong
				}
			}
			c.check(fmt.Sprint(l.name, ", round ", i), written(t, 200, slices.Concat(records...)))
		}
	}
	c.expectArchives(1000)
}
