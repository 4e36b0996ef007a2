package store

import (
	"bytes"
	"errors"
	"fmt"
	"math"
	"math/rand"
	"slices"
	"testing"

	"versions/api"
)

// opened is a store over a device that can be opened, and its string.
func opened(t testing.TB, d *api.Device) (*Store, []byte) {
	t.Helper()
	s, all, err := Open(d)
	if err != nil || s == nil {
		t.Fatalf("Open: %v, %v", s, err)
	}
	return s, all
}

// empty is a store over an empty device.
func empty(t testing.TB, sectors int) *Store {
	t.Helper()
	s, all := opened(t, api.NewDevice(sectors))
	if len(all) != 0 || s.Size() != 0 {
		t.Fatalf("an empty device has %q", all)
	}
	return s
}

// noise is n bytes.
func noise(seed int64, n int) []byte {
	b := make([]byte, n)
	rand.New(rand.NewSource(seed)).Read(b)
	return b
}

func appended(t testing.TB, s *Store, data []byte) {
	t.Helper()
	if err := s.Append(data, 0); err != nil {
		t.Fatalf("Append of %d bytes: %v", len(data), err)
	}
}

func cut(t testing.TB, s *Store, cuts ...Span) {
	t.Helper()
	if err := s.Cut(cuts); err != nil {
		t.Fatalf("Cut of %v: %v", cuts, err)
	}
}

// without is a string out of which pieces are cut.
func without(b []byte, cuts ...Span) []byte {
	b = bytes.Clone(b)
	for _, c := range slices.Backward(cuts) {
		b = slices.Delete(b, c.Place, c.End())
	}
	return b
}

// expectString: a store has that string, and so has one that is opened over its device.
func expectString(t testing.TB, what string, s *Store, want []byte) {
	t.Helper()
	got := make([]byte, s.Size())
	if err := s.Read(0, got); err != nil || !bytes.Equal(got, want) {
		t.Fatalf("%s: %d bytes, %v, want %d", what, len(got), err, len(want))
	}
	expectPages(t, what, s)
	again, all := opened(t, s.device.Copy())
	if !bytes.Equal(all, want) || !slices.Equal(again.pages, s.pages) || len(again.free) != len(s.free) {
		t.Fatalf("%s, opened again: %d bytes, pages %v, want %d, %v", what, len(all), again.pages, len(want), s.pages)
	}
}

// expectPages: each sector behind the tables has one page or is free, and the pages follow one another.
func expectPages(t testing.TB, what string, s *Store) {
	t.Helper()
	place := 0
	all := slices.Clone(s.free)
	for _, p := range s.pages {
		if p.Place != place || p.Size < 1 || p.Size > room {
			t.Fatalf("%s: pages %v", what, s.pages)
		}
		place = p.End()
		all = append(all, p.sector)
	}
	slices.Sort(all)
	for i, at := range all {
		if at != s.layout.firstPage()+i {
			t.Fatalf("%s: sectors %v, pages %v, free %v", what, all, s.pages, s.free)
		}
	}
	if len(all) != s.layout.pages() || len(s.free) < reserve {
		t.Fatalf("%s: %d sectors, want %d, of which %d are free", what, len(all), s.layout.pages(), len(s.free))
	}
}

func TestAppend(t *testing.T) {
	s := empty(t, 60)
	var want []byte
	for i, n := range []int{1, 5, room - 6, 1, room, room - 1, room + 1, 3 * room, 700, 1} {
		data := noise(int64(i), n)
		appended(t, s, data)
		want = append(want, data...)
		expectString(t, fmt.Sprint("behind piece ", i), s, want)
		if len(s.pages) != ceil(len(want), room) {
			t.Errorf("%d pages for %d bytes", len(s.pages), len(want))
		}
	}
}

func TestCut(t *testing.T) {
	all := noise(1, 5*room+50)
	for what, cuts := range map[string][]Span{
		"none":                   nil,
		"one byte":               {{7, 1}},
		"the first byte":         {{0, 1}},
		"the last byte":          {{len(all) - 1, 1}},
		"a page":                 {{room, room}},
		"two pages":              {{room, 2 * room}},
		"over a bound":           {{room - 3, 5}},
		"over three pages":       {{room - 3, room + 9}},
		"two in one page":        {{5, 3}, {50, 60}},
		"two that touch":         {{5, 3}, {8, 60}},
		"two that meet at pages": {{100, room - 100}, {room, 7}},
		"far from one another":   {{5, 3}, {2*room + 8, 60}, {4*room + 1, room - 1}, {5 * room, 50}},
		"all but one byte":       {{0, 300}, {301, len(all) - 301}},
		"all":                    {{0, len(all)}},
		"all, in three":          {{0, 100}, {100, 200}, {300, len(all) - 300}},
		"a byte of each page":    {{3, 1}, {room + 3, 1}, {2*room + 3, 1}, {3*room + 3, 1}, {4*room + 3, 1}, {5*room + 3, 1}},
	} {
		s := empty(t, 40)
		appended(t, s, all)
		before := slices.Clone(cuts)
		cut(t, s, cuts...)
		expectString(t, what, s, without(all, cuts...))
		if !slices.Equal(cuts, before) {
			t.Errorf("%s: what was handed in was written into", what)
		}
		appended(t, s, []byte("more"))
		expectString(t, what+", and more", s, append(without(all, cuts...), "more"...))
	}
}

// To cut one piece out takes no more than two free sectors, wherever it is; and no page more than before.
func TestCutNeedsTwoSectors(t *testing.T) {
	for place := 0; place < 9*room; place += 7 {
		for _, size := range []int{1, 60, room, room + 1, 3*room + 5} {
			s := empty(t, 16)
			all := noise(1, 10*room)
			appended(t, s, all)
			c := Span{place, min(size, len(all)-place)}
			cut(t, s, c)
			expectString(t, fmt.Sprint(c), s, without(all, c))
			if len(s.pages) > 10 {
				t.Errorf("%d pages", len(s.pages))
			}
		}
	}
}

// Random changes, held against a string in memory.
func TestAgainstAString(t *testing.T) {
	for seed := range int64(60) {
		r := rand.New(rand.NewSource(seed))
		s := empty(t, []int{16, 20, 70, 300}[seed%4])
		var want []byte
		for i := range 150 {
			what := fmt.Sprintf("seed %d, change %d", seed, i)
			var err error
			after := want
			switch r.Intn(5) {
			case 0, 1:
				data := noise(seed+int64(i), 1+r.Intn(1+r.Intn(900)))
				after = append(bytes.Clone(want), data...)
				err = s.Append(data, r.Intn(3))
			case 2, 3:
				cuts := randomCuts(r, len(want))
				after = without(want, cuts...)
				err = s.Cut(cuts)
			default:
				err = s.Tighten()
				expectTight(t, what, s)
			}
			if err == nil {
				want = after
			} else if err != api.ErrFull {
				t.Fatalf("%s: %v", what, err)
			}
			expectString(t, what, s, want)
		}
	}
}

// randomCuts are some pieces of a string, in their order.
func randomCuts(r *rand.Rand, size int) []Span {
	var cuts []Span
	for place := r.Intn(size + 1); place < size; {
		n := min(1+r.Intn(200), size-place)
		cuts = append(cuts, Span{place, n})
		place += n + r.Intn(400)
	}
	return cuts
}

func TestRead(t *testing.T) {
	s := empty(t, 40)
	all := noise(1, 4*room+9)
	appended(t, s, all)
	c := Span{room + 30, 50}
	cut(t, s, c)
	all = without(all, c)
	for place := range len(all) {
		for _, n := range []int{0, 1, 2, room, room + 1, len(all)} {
			into := make([]byte, min(n, len(all)-place))
			if err := s.Read(place, into); err != nil || !bytes.Equal(into, all[place:place+len(into)]) {
				t.Fatalf("%d bytes from %d on: %v", len(into), place, err)
			}
		}
	}
}

// What there is no room for changes nothing: 16 sectors have 10 pages at the most, and two more that are free.
func TestFull(t *testing.T) {
	s := empty(t, 16)
	all := noise(1, 7*room)
	appended(t, s, all)
	for _, n := range []int{3*room + 1, 5 * room, 100 * room} {
		if err := s.Append(noise(2, n), 0); err != api.ErrFull {
			t.Errorf("%d bytes too many: %v", n, err)
		}
		expectString(t, "full", s, all)
	}
	appended(t, s, noise(3, 3*room))
	all = append(all, noise(3, 3*room)...)
	expectString(t, "to the last byte", s, all)
	if err := s.Append([]byte{1}, 0); err != api.ErrFull {
		t.Errorf("one byte: %v", err)
	}
	cuts := []Span{{5, 1}, {room + 5, 1}, {2*room + 5, 1}}
	if err := s.Cut(cuts); err != api.ErrFull {
		t.Errorf("a cut for which there are not enough sectors: %v", err)
	}
	if err := s.Tighten(); err != nil {
		t.Errorf("Tighten: %v", err)
	}
	if err := s.Sync(); err != nil {
		t.Errorf("Sync: %v", err)
	}
	expectString(t, "full", s, all)
	for _, c := range slices.Backward(cuts) {
		cut(t, s, c)
	}
	expectString(t, "cut one by one", s, without(all, cuts...))
}

// Pages that go as a whole need no sector.
func TestCutOfWholePages(t *testing.T) {
	s := empty(t, 16)
	all := noise(1, 10*room)
	appended(t, s, all)
	c := Span{room, 8 * room}
	cut(t, s, c)
	expectString(t, "eight pages less", s, without(all, c))
}

// Sectors that must be left free beside the two that are so always; those that a change frees count.
func TestAppendLeavesSectorsFree(t *testing.T) {
	s := empty(t, 16)
	appended(t, s, noise(1, 6*room+1))
	if s.Most(0) != 10*room || s.Most(3) != 7*room || s.Most(10) != 0 || s.Most(11) != 0 {
		t.Errorf("the most: %d, %d, %d", s.Most(0), s.Most(3), s.Most(10))
	}
	if err := s.Append(noise(2, room), 3); err != api.ErrFull {
		t.Errorf("8 pages, and 3 left free: %v", err)
	}
	if err := s.Append(noise(2, room-1), 3); err != nil {
		t.Errorf("7 pages, and 3 left free: %v", err)
	}
	for leave, n := range []int{3, 2, 1, 0} {
		if err := s.Append(noise(3, n*room+1), leave); err != api.ErrFull {
			t.Errorf("%d sectors, and %d left free: %v", n+1, leave, err)
		}
	}
	for _, leave := range []int{2, 1, 0} {
		if err := s.Append(noise(4, room), leave); err != nil {
			t.Errorf("%d left free: %v", leave, err)
		}
	}
}

// loose is a store of 16 sectors, each page of which has little, and its string.
func loose(t testing.TB, pages int) (*Store, []byte) {
	t.Helper()
	s := empty(t, 16)
	all := noise(1, pages*room)
	appended(t, s, all)
	// From the end on, so that the places stay.
	for i := range pages {
		c := Span{(pages-1-i)*room + 5, 60 + 5*i}
		cut(t, s, c)
		all = without(all, c)
	}
	return s, all
}

// expectTight: all pages are full but the last one.
func expectTight(t testing.TB, what string, s *Store) {
	t.Helper()
	for _, p := range s.pages[:max(len(s.pages)-1, 0)] {
		if p.Size != room {
			t.Fatalf("%s: pages %v", what, s.pages)
		}
	}
}

func TestTighten(t *testing.T) {
	for pages := 1; pages <= 10; pages++ {
		s, all := loose(t, pages)
		if len(s.pages) != pages {
			t.Fatalf("%d pages, want %d", len(s.pages), pages)
		}
		if err := s.Tighten(); err != nil {
			t.Fatal(err)
		}
		expectString(t, fmt.Sprint(pages, " pages"), s, all)
		expectTight(t, fmt.Sprint(pages, " pages"), s)
		turn := s.mark.turn
		if err := s.Tighten(); err != nil || s.mark.turn != turn {
			t.Errorf("what is tight is written again, or %v", err)
		}
	}
	if err := empty(t, 16).Tighten(); err != nil {
		t.Error(err)
	}
}

// What is free in the first page comes to be so in the last one.
func TestTightenOfTheFirstPage(t *testing.T) {
	s := empty(t, 16)
	all := noise(1, 10*room)
	appended(t, s, all)
	cut(t, s, Span{3, 20})
	if err := s.Append(noise(2, 20), 0); err != api.ErrFull {
		t.Errorf("no page has room behind it: %v", err)
	}
	if err := s.Tighten(); err != nil {
		t.Fatal(err)
	}
	if err := s.Append(noise(2, 20), 0); err != nil {
		t.Errorf("the last page has room behind it: %v", err)
	}
	expectString(t, "as long as before", s, append(without(all, Span{3, 20}), noise(2, 20)...))
}

// What is handed to Append is not kept, nor written into.
func TestAppendLeavesDataAlone(t *testing.T) {
	s := empty(t, 16)
	data := noise(1, 3*room)
	before := bytes.Clone(data)
	appended(t, s, data[:room+1])
	appended(t, s, data[:10])
	if !bytes.Equal(data, before) {
		t.Fatal("the data was written into")
	}
	clear(data)
	expectString(t, "not kept", s, append(bytes.Clone(before[:room+1]), before[:10]...))
}

// On greater devices the numbers of sectors take more bytes; on all of them each page has its place in the table.
func TestLayouts(t *testing.T) {
	for _, n := range []int{16, 17, 65, 66, 67, 130, 131, 1000, 1<<16 - 1, 1 << 16, 1<<16 + 1, 1 << 20} {
		l := layout{n}
		if l.tableSize()*l.entries() < l.pages() || l.firstPage()+l.pages() != n || l.tableAt(0) == l.tableAt(1) {
			t.Errorf("%d sectors: %d a table, with %d each, for %d pages", n, l.tableSize(), l.entries(), l.pages())
		}
		if (l.tableSize()-1)*l.entries() >= l.pages()+tables {
			t.Errorf("%d sectors: %d are more than a table needs", n, l.tableSize())
		}
		if 1<<(8*l.width()) < n {
			t.Errorf("%d sectors: %d bytes for the number of one", n, l.width())
		}
	}
}

func TestGreatDevices(t *testing.T) {
	for _, n := range []int{1 << 16, 1<<16 + 9} {
		s := empty(t, n)
		all := noise(1, 300*room+7)
		appended(t, s, all)
		// The last sectors are taken too.
		slices.Reverse(s.free)
		appended(t, s, noise(2, 200*room))
		all = append(all, noise(2, 200*room)...)
		c := Span{50, 100 * room}
		cut(t, s, c)
		_, got := opened(t, s.device.Copy())
		if !bytes.Equal(got, without(all, c)) || s.pages[len(s.pages)-1].sector < n-202 {
			t.Errorf("%d sectors: %d bytes, the last page %v", n, len(got), s.pages[len(s.pages)-1])
		}
	}
}

// P1: marks that no store wrote.
func TestMarksThatCannotBe(t *testing.T) {
	for what, marks := range map[string][]mark{
		"too far on":                {{turn: 3}},
		"behind the last turn none": {{turn: math.MaxUint64}},
		"the last turn, and the one behind the first": {{turn: math.MaxUint64}, {turn: 4}},
		"one that is missing":                         {{turn: 2}},
		"two that do not follow":                      {{turn: 5}, {turn: 8}},
		"more pages than sectors":                     {{turn: 1, pages: 13}},
		"far too many pages":                          {{turn: 1, pages: 1<<32 - 1}},
		"a table that isn't":                          {{turn: 1, pages: 1}},
	} {
		d := api.NewDevice(16)
		for _, m := range marks {
			d.Write(m.slot(), m.sector())
		}
		expectCorrupt(t, what, d)
	}
	d := api.NewDevice(16)
	d.Write(0, mark{turn: 0}.sector())
	expectCorrupt(t, "a mark of the turn 0", d)
	d = api.NewDevice(16)
	d.Write(0, sealed(0, mark{turn: 1}.sector()))
	expectCorrupt(t, "a mark in the other's slot", d)
	d = api.NewDevice(16)
	d.Write(1, sealed(0, mark{turn: 1}.sector()))
	expectCorrupt(t, "a mark with the sum of another sector", d)
}

// P1: a device with more pages than a store leaves: out of it nothing could be cut.
func TestPagesInTheReserve(t *testing.T) {
	for pages := 1; pages <= 12; pages++ {
		s := empty(t, 16)
		var d draft
		d.lay(noise(1, pages*room))
		s.writePages(d)
		s.writeTable(1, d.pages)
		s.write(1, mark{1, pages}.sector())
		if pages > 10 {
			expectCorrupt(t, fmt.Sprint(pages, " pages"), s.device)
			continue
		}
		if _, got := opened(t, s.device); !bytes.Equal(got, noise(1, pages*room)) {
			t.Errorf("%d pages: %d bytes", pages, len(got))
		}
	}
}

// P1: behind the last turn that there is room for others come.
func TestTurnsWrapRound(t *testing.T) {
	d := api.NewDevice(16)
	for _, m := range []mark{{turn: math.MaxUint64 - 3}, {turn: math.MaxUint64 - 2}} {
		d.Write(m.slot(), m.sector())
	}
	s, all := opened(t, d)
	for i := range byte(9) {
		appended(t, s, []byte{i})
		all = append(all, i)
		expectString(t, fmt.Sprint("turn ", s.mark.turn), s, all)
		if i%2 == 0 {
			s, _ = opened(t, d)
		}
	}
	if s.mark.turn != 8 {
		t.Errorf("turn %d", s.mark.turn)
	}
}

func expectCorrupt(t *testing.T, what string, d *api.Device) {
	t.Helper()
	s, all, err := Open(d)
	var where *api.SectorError
	if s != nil || all != nil || !errors.As(err, &where) || where.Err != api.ErrCorrupt {
		t.Errorf("%s: %v, %q, %v", what, s, all, err)
	}
}

// P1: tables and pages that no store wrote, though they have their sums.
func TestTablesAndPagesThatCannotBe(t *testing.T) {
	l := layout{16}
	first := l.firstPage()
	for what, sectors := range map[string][]int{
		"a slot":            {first, 1},
		"a table":           {first, first - 1},
		"beyond the device": {first, 16},
		"far beyond it":     {first, 1<<16 - 1},
		"one page twice":    {first, first},
		"an empty page":     {first, first + 1},
		"a page too long":   {first, first + 2},
		"no page at all":    {first, first + 3},
	} {
		s := empty(t, 16)
		var pages []page
		for _, at := range sectors {
			pages = append(pages, page{sector: at})
		}
		s.writeTable(1, pages)
		s.write(first, pageSector(first, []byte("right")))
		s.write(first+1, pageSector(first+1, nil))
		long := pageSector(first+2, noise(1, room))
		long[sizeAt] = room + 1
		s.write(first+2, sealed(first+2, long))
		s.write(1, mark{1, len(pages)}.sector())
		expectCorrupt(t, what, s.device)
	}
}
