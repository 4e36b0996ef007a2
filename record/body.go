package record

import "versions/pack"

// body is what stands behind a head, and is taken from it piece by piece.
type body struct {
	rest  []byte
	short bool // whether more was asked for than there was
}

// take takes the next n bytes; none, if there are fewer.
func (b *body) take(n int) []byte {
	if n > len(b.rest) {
		b.short = true
		return nil
	}
	taken := b.rest[:n]
	b.rest = b.rest[n:]
	return taken
}

func (b *body) text() string { return string(b.take(int(pack.Number(b.take(lengthWidth))))) }

func (b *body) number() int { return int(pack.Number(b.take(numberWidth))) }

// numbers takes all that is left.
func (b *body) numbers() []uint32 {
	var all []uint32
	for len(b.rest) > 0 && !b.short {
		all = append(all, uint32(b.number()))
	}
	return all
}
