package store

import (
	"math"
	"slices"

	"versions/api"
	"versions/pack"
)

// Each sector begins with its sum.
const bodyAt = pack.SumSize

// Behind the sum of a page stands how many bytes it has, and then these.
const (
	sizeAt = bodyAt
	dataAt = sizeAt + 1
	room   = api.SectorSize - dataAt
)

// Behind the sum of a mark stands its turn, and how many pages there are.
const (
	turnAt   = bodyAt
	pagesAt  = turnAt + 8
	pagesEnd = pagesAt + 4
)

// mark tells which table counts.
type mark struct {
	turn  uint64 // in which it was written; 0: none was
	pages int    // how many the table has
}

// slot is where the mark stands.
func (m mark) slot() int { return int(m.turn % slots) }

// sector is the mark as it stands on the device.
func (m mark) sector() api.Sector {
	var s api.Sector
	pack.Put(s[turnAt:pagesAt], m.turn)
	pack.Put(s[pagesAt:pagesEnd], uint64(m.pages))
	return sealed(m.slot(), s)
}

// markOf is the mark that a slot has. It tells whether it is one.
func markOf(slot int, s api.Sector) (mark, bool) {
	if s == (api.Sector{}) {
		return mark{}, true
	}
	m := mark{pack.Number(s[turnAt:pagesAt]), int(pack.Number(s[pagesAt:pagesEnd]))}
	return m, intact(slot, s) && m.turn > 0 && m.slot() == slot
}

// next is the turn behind this one. Turns wrap round; but 0 is none, so the one that has its slot too comes in its stead.
func (m mark) next() uint64 {
	if m.turn == math.MaxUint64 {
		return slots
	}
	return m.turn + 1
}

// newest is the mark that was written last. It tells whether the two can have been written one behind the other.
func newest(a, b mark) (mark, bool) {
	if b.turn == a.next() {
		a, b = b, a
	}
	return a, a.turn == b.next() || a == b
}

// pageSector is a page as it stands in a sector.
func pageSector(at int, data []byte) api.Sector {
	var s api.Sector
	s[sizeAt] = byte(len(data))
	copy(s[dataAt:], data)
	return sealed(at, s)
}

// pageOf tells the bytes of the page that a sector has. It tells whether it has one.
func pageOf(at int, s api.Sector) ([]byte, bool) {
	n := int(s[sizeAt])
	if !intact(at, s) || n == 0 || n > room {
		return nil, false
	}
	return slices.Clone(s[dataAt : dataAt+n]), true
}

// sealed gives a sector its sum.
func sealed(at int, s api.Sector) api.Sector {
	sum := sumOf(at, s)
	copy(s[:], sum[:])
	return s
}

// intact tells whether a sector has its sum.
func intact(at int, s api.Sector) bool { return pack.Sum(s[:bodyAt]) == sumOf(at, s) }

func sumOf(at int, s api.Sector) pack.Sum { return pack.SumOf(uint32(at), s[bodyAt:]) }
