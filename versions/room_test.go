package versions_test

import (
	"fmt"
	"math/rand"
	"slices"
	"testing"

	"versions/api"
	"versions/record"
	"versions/store"
	"versions/versions"
)

const longPath = "abcdefghij/klmnopqrs"

// before is what an archive has, to be held against what it has later.
type before struct {
	all    string
	stored api.Stored
}

func beforeOf(t testing.TB, a *versions.Archive) before {
	t.Helper()
	stored, err := a.Stored()
	if err != nil {
		t.Fatal(err)
	}
	return before{tell(t, a), stored}
}

func (b before) expect(t testing.TB, what string, a *versions.Archive) {
	t.Helper()
	if now := beforeOf(t, a); now != b {
		t.Fatalf("%s: %v, %.2000q\nwant\n%v, %.2000q", what, now.stored, now.all, b.stored, b.all)
	}
}

// filledUp puts contents until there is no room for one byte more.
func filledUp(t testing.TB, a *versions.Archive) {
	t.Helper()
	for i, n := range []int{4000, 1000, 100, 10, 1} {
		for {
			if _, err := a.Put("fill", smallChunks(uint32(i)<<8+uint32(n), n)); err != nil {
				expectError(t, "no room", err, api.ErrFull)
				break
			}
		}
	}
}

// P12: what there is no room for changes nothing.
func TestWithoutRoom(t *testing.T) {
	for _, sectors := range []int{16, 17, 40, 100} {
		d := api.NewDevice(sectors)
		a := opened(t, d, plenty)
		expectPut(t, a, "a", noise(1, 200), 1)
		expectTag(t, a, "t", "a", 1, api.OK)
		filledUp(t, a)
		full := beforeOf(t, a)
		for range 3 {
			expectNoPut(t, a, "a", noise(3, 3000), api.ErrFull)
			expectNoPut(t, a, "b", noise(3, 3000), api.ErrFull)
			expectNoPut(t, a, "A", noise(3, 3000), api.ErrPath)
			expectNoGet(t, a, "b", 0, api.ErrMissing)
			expectError(t, "Sync", a.Sync(), api.OK)
			full.expect(t, "full", a)
			a = reopened(t, a, d, plenty)
			full.expect(t, "full, opened again", a)
		}
		for i := range 1000 {
			if err := a.Tag(fmt.Sprint("n", i), "a", 1); err != nil {
				expectError(t, "Tag", err, api.ErrFull)
				break
			}
		}
		full = beforeOf(t, a)
		expectTag(t, a, "new", "a", 1, api.ErrFull)
		expectTag(t, a, "t", "a", 1, api.ErrExists)
		full.expect(t, "full of tags", a)
		collected(t, a)
		if now := tell(t, a); now != full.all {
			t.Errorf("Collect: %.2000q", now)
		}
	}
}

// packed is a device all of whose room is taken, as no archive leaves one: two versions of a path, of which tags hold one, and one of another path.
func packed(t testing.TB) *api.Device {
	t.Helper()
	d := api.NewDevice(16)
	s, _, err := store.Open(d)
	if err != nil {
		t.Fatal(err)
	}
	records := record.AppendChunk(nil, 0, noise(1, 50))
	records = record.AppendVersion(records, 0, "a", 1, []uint32{0})
	records = record.AppendVersion(records, 1, "a", 2, []uint32{0, 0})
	records = record.AppendTag(records, "t", 1)
	for i := 0; len(records) < s.Most(0)-api.MaxChunk; i++ {
		records = record.AppendTag(records, tagName(i), 1)
	}
	for n := 1; s.Size() == 0; n++ {
		more := record.AppendChunk(slices.Clone(records), 1, noise(2, n))
		more = record.AppendVersion(more, 2, "b", 1, []uint32{1})
		if len(more) < s.Most(0) {
			continue
		}
		if err := s.Append(more, 0); err != nil {
			t.Fatal(err)
		}
	}
	return d
}

// P12: each call that adds to the records answers ErrFull, behind which all is as it was; each one that takes away does not.
func TestWithoutAnyRoom(t *testing.T) {
	d := packed(t)
	a := opened(t, d, plenty)
	was := beforeOf(t, a)
	for _, o := range []op{{call: "Put", path: "c"}, {call: "Tag", name: "u", path: "a"}, {call: "Prune", path: "a"}} {
		for range 2 {
			n, err := o.on(a)
			if n != 0 {
				t.Errorf("%v: %d beside %v", o, n, err)
			}
			expectError(t, o.String(), err, api.ErrFull)
			was.expect(t, o.String(), a)
			was.expect(t, o.String()+", opened", opened(t, d.Copy(), plenty))
		}
	}
	expectError(t, "Sync", a.Sync(), api.OK)
	a = reopened(t, a, d, plenty)
	was.expect(t, "opened again", a)
	m := copied(t, d)()
	for _, o := range []op{{call: "Untag", name: "t"}, {call: "Delete", path: "a", number: 1}, {call: "Delete", path: "b"}, {call: "Collect"}, {call: "Put", path: "c"}} {
		expectAnswer(t, "taken away", a, m, o)
	}
	if got := tell(t, a); got != m.tell() {
		t.Errorf("taken away: %.2000q\nwant\n%.2000q", got, m.tell())
	}
}

// However full the device is, all can be taken away again; and then there is room.
func TestTakingAwayFromAFullDevice(t *testing.T) {
	for _, sectors := range []int{16, 17, 40, 100} {
		for _, again := range []bool{false, true} {
			d := api.NewDevice(sectors)
			a := opened(t, d, plenty)
			expectPut(t, a, "a", noise(1, 200), 1)
			expectTag(t, a, "t", "a", 1, api.OK)
			filledUp(t, a)
			for {
				if _, err := a.Versions("fill"); err != nil {
					break
				}
				expectDelete(t, a, "fill", 0, api.OK)
				if again {
					a = reopened(t, a, d, plenty)
				}
			}
			expectUntag(t, a, "t", api.OK)
			expectPrune(t, a, "a", 0, 1)
			expectList(t, a, "")
			collected(t, a)
			expectStored(t, "nothing", a, 0, 0)
			expectPut(t, a, "a", noise(1, 200), 1)
			filledUp(t, a)
		}
	}
}

// stringSize is how many bytes the records on a device have.
func stringSize(t testing.TB, d *api.Device) int {
	t.Helper()
	s, _, err := store.Open(d.Copy())
	if err != nil {
		t.Fatal(err)
	}
	return s.Size()
}

// What a full device has free in the midst of its pages can be used to the last byte: 9 pages of 123 bytes are those that versions and tags may take.
func TestRoomIsUsedToTheLastByte(t *testing.T) {
	const most = 9 * 123
	d := api.NewDevice(api.MinSectors)
	a := opened(t, d, plenty)
	expectPut(t, a, "a", noise(1, 100), 1)
	expectTag(t, a, longPath, "a", 0, api.OK)
	filledUp(t, a)
	expectUntag(t, a, longPath, api.OK)
	// A version of one small chunk takes 8 bytes more than that.
	n := most - stringSize(t, d) - 8
	expectNoPut(t, a, "b", noise(2, n+1), api.ErrFull)
	expectPut(t, a, "b", noise(2, n), 1)
	if got := stringSize(t, d); got != most {
		t.Errorf("%d bytes are taken, want %d", got, most)
	}
}

// P10, P12: while there is no room, chunks that no version has stay, until Collect.
func TestWithoutRoomNothingIsFreed(t *testing.T) {
	d := api.NewDevice(60)
	a := opened(t, d, plenty)
	for i := range 4 {
		expectPut(t, a, "a", noise(uint32(i), 900), i+1)
	}
	expectPrune(t, a, "a", 1, 3)
	stored, _ := a.Stored()
	expectNoPut(t, a, "b", noise(9, 3000), api.ErrFull)
	expectStored(t, "as before", a, stored.Chunks, stored.Bytes)
	collected(t, a)
	expectPut(t, a, "b", noise(9, 3000), 1)
	expectChunksOf(t, "room again", a, noise(3, 900), noise(9, 3000))
}

// P12: there is room for as much as is promised. The chunks are as small as can be, and no two the same.
func TestWithRoom(t *testing.T) {
	for _, sectors := range []int{80, 200, 1000} {
		a := opened(t, api.NewDevice(sectors), plenty)
		room := sectors*api.SectorSize/4 - 2000
		for i := 0; ; i++ {
			n := min(4000, room-300)
			if i%5 == 4 {
				n = 0
			}
			if n < 0 || room < 300 {
				break
			}
			expectPut(t, a, longPath, smallChunks(uint32(i), n), i+1)
			room -= n + 300
		}
	}
}

// account counts what P12 counts.
type account struct {
	left  int
	whole int
}

func newAccount(sectors int) *account {
	whole := sectors*api.SectorSize/4 - 2000
	return &account{whole, whole}
}

// begin begins to count anew, with the versions that are there.
func (c *account) begin(m *model) {
	c.left = c.whole - m.bytes()
	for _, list := range m.files {
		c.left -= 300 * len(list)
	}
}

// take counts a call, if it may be made.
func (c *account) take(o op) bool {
	n := 300 + len(o.content)
	if n > c.left {
		return false
	}
	c.left -= n
	return true
}

// randomOp is a call of any kind; some are refused.
func randomOp(r *rand.Rand, longest int) op {
	paths := []string{longPath, "a", "abcdefghij/klmnopqr0", "none/", "b"}
	names := []string{"t", longPath, "u/v", "abcdefghij/klmnopqr1", "", "w"}
	o := op{path: paths[r.Intn(len(paths))], name: names[r.Intn(len(names))], number: r.Intn(5) - 1}
	switch k := r.Intn(20); {
	case k < 10:
		o.call = "Put"
		n := r.Intn(min(longest, 4001) + 1)
		switch r.Intn(4) {
		case 0:
			o.content = smallChunks(uint32(r.Intn(1<<16)), n)
		case 1:
			o.content = append(noise(uint32(r.Intn(9)), r.Intn(n/8+1)), noise(uint32(r.Intn(4)), n-n/8)...)
		default:
			o.content = noise(uint32(r.Intn(1<<16)), n)
		}
	case k < 13:
		o.call = "Delete"
	case k < 15:
		o.call = "Prune"
	case k < 17:
		o.call = "Tag"
	case k < 19:
		o.call = "Untag"
	default:
		o.call = "Sync"
	}
	return o
}

// near is the call with a number that is near those of the path's versions, however great they are.
func (o op) near(m *model) op {
	if list := m.files[o.path]; len(list) > 0 && o.number > 0 && o.call != "Prune" {
		o.number += list[0].number - 1
	}
	return o
}

// expectAnswer makes a call on both, and holds the answers against each other.
func expectAnswer(t testing.TB, what string, a *versions.Archive, m *model, o op) {
	t.Helper()
	want, errno := m.do(o)
	if got, err := o.on(a); got != want || api.Tell(err) != errno {
		t.Fatalf("%s: %v: %d, %v, want %d, error %d", what, o, got, err, want, errno)
	}
}

// P12: calls of all kinds, refused or not, in sessions one behind the other: as long as no more is asked for than is promised, none answers ErrFull; nor beside as many tags as there can be without that.
func TestPromisedRoom(t *testing.T) {
	calls := 0
	for seed := range int64(60) {
		r := rand.New(rand.NewSource(seed))
		s := newSession(t, fmt.Sprint("seed ", seed), []int{75, 100, 130, 300, 1000}[seed%5])
		if seed%3 == 2 {
			s.do(op{call: "Put", path: "held"})
			s.fillWithTags()
			s.again(false)
		}
		for i := 0; i < 400; {
			o := randomOp(r, max(s.account.left/3, 40))
			// What begins anew needs room too: four paths are pruned for it, and a Collect made.
			if s.account.left-300-len(o.content) > 5*300 && s.do(o) {
				i++
				calls++
				continue
			}
			for _, path := range []string{longPath, "a", "abcdefghij/klmnopqr0", "b"} {
				s.do(op{call: "Prune", path: path, number: r.Intn(3)})
			}
			if s.again(r.Intn(2) == 0); s.account.left < 6*300 {
				break
			}
		}
	}
	if calls < 5000 {
		t.Errorf("just %d calls", calls)
	}
}

// P12: puts and deletes in many short sessions, in each of which little is asked for.
func TestPromisedRoomOfSessions(t *testing.T) {
	d := api.NewDevice(80)
	for i := range 300 {
		a := opened(t, d, plenty)
		expectPut(t, a, longPath, smallChunks(uint32(i), 160), 1)
		if i%3 == 0 {
			expectTag(t, a, longPath, longPath, 1, api.OK)
			expectUntag(t, a, longPath, api.OK)
		}
		expectDelete(t, a, longPath, 1, api.OK)
		if i%2 == 0 {
			a.Close()
		}
	}
}

// P12: calls that are refused take no room at all.
func TestRefusedCallsTakeNoRoom(t *testing.T) {
	a := opened(t, api.NewDevice(16), 500)
	expectPut(t, a, "a", noise(1, 300), 1)
	expectTag(t, a, "t", "a", 1, api.OK)
	for range 500 {
		expectNoPut(t, a, "A", nil, api.ErrPath)
		expectNoPut(t, a, "a", noise(2, 300), api.ErrQuota)
		expectDelete(t, a, "a", 0, api.ErrPinned)
		expectDelete(t, a, "a", 2, api.ErrMissing)
		expectPrune(t, a, "a", 0, 0)
		expectTag(t, a, "t", "a", 0, api.ErrExists)
		expectUntag(t, a, "u", api.ErrMissing)
		expectError(t, "Sync", a.Sync(), api.OK)
		collected(t, a)
	}
	expectPut(t, a, "a", nil, 2)
}
