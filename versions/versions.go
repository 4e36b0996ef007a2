// Package versions: versions of files, of which what is the same is kept once: see DOC.md.
package versions

import (
	"versions/api"
	"versions/catalog"
	"versions/chunk"
	"versions/record"
	"versions/spare"
	"versions/store"
)

// Cuts tells the lengths of a content's chunks (P3).
func Cuts(data []byte) []int {
	var lengths []int
	for c := range chunk.All(data) {
		lengths = append(lengths, len(c))
	}
	return lengths
}

// spares is how many buffers are in use at one time: one for a change, and one for a chunk that is held against it.
const spares = 2

// Archive has versions of files. One that is closed has nothing.
type Archive struct {
	store   *store.Store
	catalog *catalog.Catalog
	spare   spare.Buffers
	account account
	quota   int
}

// Open opens an archive (P4).
func Open(d *api.Device, quota int) (*Archive, error) {
	if d == nil || d.Sectors() < api.MinSectors {
		return nil, api.ErrDevice
	}
	s, records, err := store.Open(d)
	if err != nil {
		return nil, err
	}
	c := catalog.New()
	if err := c.Apply(0, records); err != nil {
		return nil, err
	}
	// What no version has is free from here on: it is not counted as what may be kept (P12).
	c.Forget()
	a := &Archive{store: s, catalog: c, spare: spare.New(spares), account: accountOf(d), quota: max(quota, 0)}
	a.account.begin(c)
	return a, nil
}

// usable answers ErrClosed of an archive that is closed.
func (a *Archive) usable() error {
	if a.store == nil {
		return api.ErrClosed
	}
	return nil
}

// usableAt is what the calls that are given a path ask first.
func (a *Archive) usableAt(path string) error {
	if err := a.usable(); err != nil {
		return err
	}
	if !catalog.IsPath(path) {
		return api.ErrPath
	}
	return nil
}

// Put adds a version (P5).
func (a *Archive) Put(path string, content []byte) (int, error) {
	a.account.take(len(content))
	if err := a.usableAt(path); err != nil {
		return 0, err
	}
	if len(content) > api.MaxContent {
		return 0, api.ErrSize
	}
	if len(content) > a.quota-a.catalog.Bytes() {
		return 0, api.ErrQuota
	}
	if err := a.write(a.adding(path, content), leaveGrown); err != nil {
		return 0, err
	}
	return a.catalog.Latest(path), nil
}

// Get tells a version's content (P6).
func (a *Archive) Get(path string, version int) ([]byte, error) {
	v, err := a.find(path, version)
	if err != nil {
		return nil, err
	}
	return a.read(v, 0, v.Size)
}

// ReadAt tells some of it (P6).
func (a *Archive) ReadAt(path string, version, at, n int) ([]byte, error) {
	v, err := a.find(path, version)
	if err != nil {
		return nil, err
	}
	if at < 0 || n < 0 || at > v.Size {
		return nil, api.ErrRange
	}
	return a.read(v, at, min(n, v.Size-at))
}

// find finds a version; 0 stands for the latest one.
func (a *Archive) find(path string, version int) (*catalog.Version, error) {
	if err := a.usableAt(path); err != nil {
		return nil, err
	}
	return a.catalog.Find(path, version)
}

// read reads n bytes of a version, which are there, from the chunks that have them.
func (a *Archive) read(v *catalog.Version, at, n int) ([]byte, error) {
	content := make([]byte, n)
	rest := content
	for piece := range a.catalog.Pieces(v) {
		if at >= piece.Size {
			at -= piece.Size
			continue
		}
		part := rest[:min(piece.Size-at, len(rest))]
		if err := a.store.Read(piece.Place+at, part); err != nil {
			return nil, err
		}
		rest, at = rest[len(part):], 0
	}
	return content, nil
}

// Versions tells the numbers of a path's versions (P7).
func (a *Archive) Versions(path string) ([]int, error) {
	if err := a.usableAt(path); err != nil {
		return nil, err
	}
	return a.catalog.Numbers(path)
}

// List tells the paths (P7).
func (a *Archive) List(prefix string) ([]api.Entry, error) {
	if err := a.usable(); err != nil {
		return nil, err
	}
	return a.catalog.List(prefix), nil
}

// Delete removes a version (P8).
func (a *Archive) Delete(path string, version int) error {
	a.account.take(0)
	v, err := a.find(path, version)
	if err != nil {
		return err
	}
	if v.Held() {
		return api.ErrPinned
	}
	return a.remove(&v.At)
}

// Prune keeps the latest versions of a path (P8).
func (a *Archive) Prune(path string, keep int) (int, error) {
	a.account.take(0)
	if err := a.usableAt(path); err != nil {
		return 0, err
	}
	numbers, err := a.catalog.Numbers(path)
	if err != nil {
		return 0, err
	}
	keep = min(max(keep, 0), len(numbers))
	n := len(a.catalog.Prunable(path, keep))
	if n == 0 {
		// Nothing is to be written; but without power that is refused too.
		return 0, a.store.Fault()
	}
	err = a.write(func(b []byte) ([]byte, error) { return record.AppendPrune(b, path, keep), nil }, leavePruned)
	if err != nil {
		return 0, err
	}
	return n, nil
}

// Tag holds a version by a name (P9).
func (a *Archive) Tag(name, path string, version int) error {
	a.account.take(0)
	if err := a.usableAt(name); err != nil {
		return err
	}
	v, err := a.find(path, version)
	if err != nil {
		return err
	}
	if _, err := a.catalog.FindTag(name); err == nil {
		return api.ErrExists
	}
	return a.write(a.tagging(name, v.ID), leaveGrown)
}

// Untag lets it go (P9).
func (a *Archive) Untag(name string) error {
	a.account.take(0)
	if err := a.usableAt(name); err != nil {
		return err
	}
	t, err := a.catalog.FindTag(name)
	if err != nil {
		return err
	}
	return a.remove(&t.At)
}

// Tags tells all tags (P9).
func (a *Archive) Tags() ([]api.Pin, error) {
	if err := a.usable(); err != nil {
		return nil, err
	}
	return a.catalog.Tags(), nil
}

// Collect frees what no version has (P10).
func (a *Archive) Collect() error {
	a.account.take(0)
	if err := a.ready(); err != nil {
		return err
	}
	if err := a.cut(a.catalog.Unused()); err != nil {
		return err
	}
	if err := a.store.Sync(); err != nil {
		return err
	}
	a.account.begin(a.catalog)
	return nil
}

// Stored tells what the device has (P10).
func (a *Archive) Stored() (api.Stored, error) {
	if err := a.usable(); err != nil {
		return api.Stored{}, err
	}
	return a.catalog.Stored(), nil
}

// Sync makes all that was done safe (P11).
func (a *Archive) Sync() error {
	a.account.take(0)
	if err := a.usable(); err != nil {
		return err
	}
	return a.store.Sync()
}

// Close ends it (P11).
func (a *Archive) Close() error {
	if err := a.usable(); err != nil {
		return err
	}
	err := a.store.Sync()
	*a = Archive{}
	return err
}
