package journal

import (
	"versions/api"
	"versions/pack"
)

// slots are the first sectors. Marks are written to them by turns: so while one is written, the one ahead of it is there.
const slots = 2

// What a slot has behind its sum.
const (
	turnAt  = pack.SumSize
	safeAt  = turnAt + 8
	safeEnd = safeAt + 8
)

// mark tells what is safe.
type mark struct {
	turn uint64 // 0: none was written
	safe int    // the sectors below it are safe
}

// slot is where the mark stands.
func (m mark) slot() int { return int(m.turn % slots) }

// sector is the mark as it stands on the device.
func (m mark) sector() api.Sector {
	var s api.Sector
	pack.Put(s[turnAt:safeAt], m.turn)
	pack.Put(s[safeAt:safeEnd], uint64(m.safe))
	return sealed(m.slot(), s)
}

// markOf is the mark that a slot has, on a device of so many sectors. It tells whether it is one.
func markOf(slot int, s api.Sector, sectors int) (mark, bool) {
	if s == (api.Sector{}) {
		return mark{turn: 0, safe: slots}, true
	}
	safe := pack.Number(s[safeAt:safeEnd])
	if !intact(slot, s) || safe < slots || safe > uint64(sectors) {
		return mark{}, false
	}
	m := mark{turn: pack.Number(s[turnAt:safeAt]), safe: int(safe)}
	return m, m.turn > 0 && m.slot() == slot
}

// newest is the mark that was written last. It tells whether the two can have been written one behind the other.
func newest(a, b mark) (mark, bool) {
	if a.turn < b.turn {
		a, b = b, a
	}
	return a, a.turn == b.turn+1 || a.turn == 0
}
