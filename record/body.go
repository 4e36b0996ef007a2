package record

import (
	"math"

	"versions/pack"
)

// body is what stands behind a head, and is taken from it piece by piece.
type body struct {
	rest  []byte
	wrong bool // whether something was asked for that is not there
}

// number takes a number. That of a version may be any that an int can be: it goes up for as long as the path has versions.
func (b *body) number() int { return int(b.upTo(math.MaxInt)) }

// id takes the number of a record. These are given anew when they are free, so they stay far below.
func (b *body) id() uint32 { return uint32(b.upTo(math.MaxInt32)) }

// upTo takes a number that is no greater than that.
func (b *body) upTo(most uint64) uint64 {
	n, size := pack.Short(b.rest)
	if size == 0 || n > most {
		b.wrong = true
		return 0
	}
	b.rest = b.rest[size:]
	return n
}

// ids takes numbers, ahead of which stands how many there are.
func (b *body) ids() []uint32 {
	var all []uint32
	for n := b.number(); n > 0 && !b.wrong; n-- {
		all = append(all, b.id())
	}
	return all
}

// text takes all that is left.
func (b *body) text() string {
	s, ok := textOf(b.rest)
	b.wrong = b.wrong || !ok
	return s
}
