package journal

import (
	"versions/api"
	"versions/pack"
)

// What a sector of a change begins with: its sum, its stamp, and whether the change goes on behind it.
const (
	stampAt = pack.SumSize
	moreAt  = stampAt + 8
	dataAt  = moreAt + 1
	room    = api.SectorSize - dataAt
)

// leaf is what a sector has of a change.
type leaf struct {
	stamp uint64 // the turn in which it was written
	more  bool   // whether the change goes on in the next sector
	data  [room]byte
}

// sector is the leaf as it stands on the device.
func (l leaf) sector(at int) api.Sector {
	var s api.Sector
	pack.Put(s[stampAt:moreAt], l.stamp)
	if l.more {
		s[moreAt] = 1
	}
	copy(s[dataAt:], l.data[:])
	return sealed(at, s)
}

// leafOf is the leaf that a sector has. It tells whether the sector is one.
func leafOf(at int, s api.Sector) (leaf, bool) {
	if !intact(at, s) {
		return leaf{}, false
	}
	return leaf{
		stamp: pack.Number(s[stampAt:moreAt]),
		more:  s[moreAt] != 0,
		data:  [room]byte(s[dataAt:]),
	}, true
}

// sealed gives a sector its sum.
func sealed(at int, s api.Sector) api.Sector {
	sum := sumOf(at, s)
	copy(s[:], sum[:])
	return s
}

// intact tells whether a sector has its sum.
func intact(at int, s api.Sector) bool {
	return pack.Sum(s[:pack.SumSize]) == sumOf(at, s)
}

func sumOf(at int, s api.Sector) pack.Sum {
	return pack.SumOf(uint32(at), s[pack.SumSize:])
}
