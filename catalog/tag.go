package catalog

import (
	"cmp"
	"slices"

	"versions/api"
	"versions/record"
	"versions/store"
)

// Tag is a tag.
type Tag struct {
	At      store.Span // where its record stands now
	version *Version   // that it holds
}

func (c *Catalog) addTag(at store.Span, r record.Tag) bool {
	v := c.ids[r.Version]
	if v == nil || v.gone || !IsPath(r.Name) || c.tags[r.Name] != nil {
		return false
	}
	v.tags++
	c.tags[r.Name] = &Tag{at, v}
	c.tagBytes += at.Size
	return true
}

// removeTag takes away a tag that is there.
func (c *Catalog) removeTag(name string) {
	t := c.tags[name]
	t.version.tags--
	c.tagBytes -= t.At.Size
	delete(c.tags, name)
}

// FindTag finds a tag.
func (c *Catalog) FindTag(name string) (*Tag, error) {
	t := c.tags[name]
	if t == nil {
		return nil, api.ErrMissing
	}
	return t, nil
}

// Tags are all tags, by their names.
func (c *Catalog) Tags() []api.Pin {
	var pins []api.Pin
	for name, t := range c.tags {
		pins = append(pins, api.Pin{Tag: name, Path: t.version.path, Version: t.version.Number})
	}
	slices.SortFunc(pins, func(a, b api.Pin) int { return cmp.Compare(a.Tag, b.Tag) })
	return pins
}

// TagBytes is how many bytes the records of all tags have together.
func (c *Catalog) TagBytes() int { return c.tagBytes }
