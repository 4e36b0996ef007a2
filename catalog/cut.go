package catalog

import (
	"cmp"
	"slices"

	"versions/store"
)

// Unused are the records that nothing needs: those of all chunks that no version has, and of versions that are gone.
func (c *Catalog) Unused() []store.Span {
	return c.unusedIf(func(uint32) bool { return true })
}

// Forgotten are those of them whose chunks are not known.
func (c *Catalog) Forgotten() []store.Span {
	return c.unusedIf(func(id uint32) bool { return !c.isKnown(id) })
}

// unusedIf takes just those chunks of which take says so.
func (c *Catalog) unusedIf(take func(id uint32) bool) []store.Span {
	var spans []store.Span
	for id, k := range c.unused() {
		if take(id) {
			spans = append(spans, k.at)
		}
	}
	for _, v := range c.ids {
		if v.gone {
			spans = append(spans, v.At)
		}
	}
	slices.SortFunc(spans, byPlace)
	return spans
}

// Prunes are the records of prunes. They are needed until the records of the versions that are gone are not there any more.
func (c *Catalog) Prunes() []store.Span { return slices.Clone(c.prunes) }

// Cut tells that these records, in their order, were cut out.
func (c *Catalog) Cut(cuts []store.Span) {
	for id, k := range c.chunks {
		if moved(&k.at, cuts) {
			c.removeChunk(id)
		}
	}
	for id, v := range c.ids {
		if moved(&v.At, cuts) {
			c.removeVersion(id)
		}
	}
	for name, t := range c.tags {
		if moved(&t.At, cuts) {
			c.removeTag(name)
		}
	}
	var prunes []store.Span
	for _, at := range c.prunes {
		if !moved(&at, cuts) {
			prunes = append(prunes, at)
		}
	}
	c.prunes = prunes
}

// moved moves a record to where it stands behind the cuts. It tells whether it was cut out itself.
func moved(at *store.Span, cuts []store.Span) bool {
	n, cut := slices.BinarySearchFunc(cuts, *at, byPlace)
	for _, ahead := range cuts[:n] {
		at.Place -= ahead.Size
	}
	return cut
}

func byPlace(a, b store.Span) int { return cmp.Compare(a.Place, b.Place) }
