package catalog

import (
	"cmp"
	"slices"

	"versions/api"
	"versions/record"
)

func (c *Catalog) addTag(r record.Tag) bool {
	v, ok := c.version(r.Path, r.Number)
	if !ok || !IsPath(r.Name) || c.HasTag(r.Name) {
		return false
	}
	v.tags++
	c.tags[r.Name] = api.Pin{Tag: r.Name, Path: r.Path, Version: r.Number}
	return true
}

func (c *Catalog) removeTag(r record.Untag) bool {
	pin := c.tags[r.Name]
	v, ok := c.version(pin.Path, pin.Version)
	if !ok {
		return false
	}
	v.tags--
	delete(c.tags, r.Name)
	return true
}

// HasTag tells whether there is a tag of that name.
func (c *Catalog) HasTag(name string) bool {
	_, ok := c.tags[name]
	return ok
}

// Tags are all tags, by their names.
func (c *Catalog) Tags() []api.Pin {
	var pins []api.Pin
	for _, pin := range c.tags {
		pins = append(pins, pin)
	}
	slices.SortFunc(pins, func(a, b api.Pin) int { return cmp.Compare(a.Tag, b.Tag) })
	return pins
}
