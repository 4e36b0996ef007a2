package catalog

import (
	"cmp"
	"slices"

	"versions/store"
)

// Unused are the records that nothing needs: those of all chunks that no version has, and of versions that are gone.
func (c *Catalog) Unused() []store.Span {
	return c.unusedIf(func(*chunk) bool { return true })
}

// Forgotten are those of them whose chunks are not known.
func (c *Catalog) Forgotten() []store.Span {
	return c.unusedIf(func(k *chunk) bool { return !k.known })
}

// unusedIf takes just those chunks of which take says so.
func (c *Catalog) unusedIf(take func(k *chunk) bool) []store.Span {
	var spans []store.Span
	for _, k := range c.unused() {
		if take(k) {
			spans = append(spans, k.at)
		}
	}
	for _, v := range c.ids {
		if v.gone {
			spans = append(spans, v.At)
		}
	}
	slices.SortFunc(spans, byPlace)
	return spans
}

// Prunes are the records of prunes. They are needed until the records of the versions that are gone are not there any more.
func (c *Catalog) Prunes() []store.Span { return slices.Clone(c.prunes) }

// Cut tells that these records, in their order, were cut out.
func (c *Catalog) Cut(records []store.Span) {
	cuts := cutsOf(records)
	before := len(c.chunks)
	for id, k := range c.chunks {
		if cuts.move(&k.at) {
			c.removeChunk(id)
		}
	}
	if len(c.chunks) < before {
		c.sift()
	}
	for id, v := range c.ids {
		if cuts.move(&v.At) {
			c.removeVersion(id)
		}
	}
	for name, t := range c.tags {
		if cuts.move(&t.At) {
			c.removeTag(name)
		}
	}
	var prunes []store.Span
	for _, at := range c.prunes {
		if !cuts.move(&at) {
			prunes = append(prunes, at)
		}
	}
	c.prunes = prunes
}

// cuts are records that were cut out, in their order.
type cuts struct {
	records []store.Span
	ahead   []int // how many bytes were cut out ahead of each of them; and at last, of all of them
}

func cutsOf(records []store.Span) cuts {
	ahead := []int{0}
	for i, r := range records {
		ahead = append(ahead, ahead[i]+r.Size)
	}
	return cuts{records, ahead}
}

// move moves a record to where it stands behind the cuts. It tells whether it was cut out itself.
func (c cuts) move(at *store.Span) bool {
	n, cut := slices.BinarySearchFunc(c.records, *at, byPlace)
	at.Place -= c.ahead[n]
	return cut
}

func byPlace(a, b store.Span) int { return cmp.Compare(a.Place, b.Place) }
