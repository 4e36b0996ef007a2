package journal

import (
	"versions/api"
	"versions/pack"
)

// slots are the first sectors. Marks are written to them by turns: so while one is written, the one ahead of it is there.
const slots = 2

// halves are what the sectors behind the slots are parted into. The changes are in one of them; the other one is there to write them anew.
const halves = 2

// What a slot has behind its sum.
const (
	turnAt  = pack.SumSize
	halfAt  = turnAt + 8
	safeAt  = halfAt + 1
	safeEnd = safeAt + 8
)

// mark tells where the changes are, and which of them are safe.
type mark struct {
	turn uint64 // 0: none was written
	half int    // the half that has the changes
	safe int    // the sectors of that half below this one are safe
}

// slot is where the mark stands.
func (m mark) slot() int { return int(m.turn % slots) }

// sector is the mark as it stands on the device.
func (m mark) sector() api.Sector {
	var s api.Sector
	pack.Put(s[turnAt:halfAt], m.turn)
	pack.Put(s[halfAt:safeAt], uint64(m.half))
	pack.Put(s[safeAt:safeEnd], uint64(m.safe))
	return sealed(m.slot(), s)
}

// markOf is the mark that a slot has. It tells whether it is one.
func markOf(slot int, s api.Sector) (mark, bool) {
	if s == (api.Sector{}) {
		return mark{safe: slots}, true
	}
	m := mark{
		turn: pack.Number(s[turnAt:halfAt]),
		half: int(pack.Number(s[halfAt:safeAt])),
		safe: int(pack.Number(s[safeAt:safeEnd])),
	}
	return m, intact(slot, s) && m.turn > 0 && m.slot() == slot
}

// newest is the mark that was written last. It tells whether the two can have been written one behind the other.
func newest(a, b mark) (mark, bool) {
	if a.turn < b.turn {
		a, b = b, a
	}
	return a, a.turn == b.turn+1 || a.turn == 0
}
