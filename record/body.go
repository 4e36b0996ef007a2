package record

import (
	"math"

	"versions/pack"
)

// body is what stands behind a head, and is taken from it piece by piece.
type body struct {
	rest  []byte
	wrong bool // whether something was asked for that is not there
}

func (b *body) number() int {
	n, size := pack.Short(b.rest)
	if size == 0 || n > math.MaxInt32 {
		b.wrong = true
		return 0
	}
	b.rest = b.rest[size:]
	return int(n)
}

func (b *body) id() uint32 { return uint32(b.number()) }

// ids takes numbers, ahead of which stands how many there are.
func (b *body) ids() []uint32 {
	var all []uint32
	for n := b.number(); n > 0 && !b.wrong; n-- {
		all = append(all, b.id())
	}
	return all
}

// text takes all that is left.
func (b *body) text() string {
	s, ok := textOf(b.rest)
	b.wrong = b.wrong || !ok
	return s
}
