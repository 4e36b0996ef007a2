// Package versions: versions of files, of which what is the same is kept once: see DOC.md.
package versions

import (
	"versions/api"
	"versions/chunk"
)

// Cuts tells the lengths of a content's chunks (P3).
func Cuts(data []byte) []int {
	var lengths []int
	for c := range chunk.All(data) {
		lengths = append(lengths, len(c))
	}
	return lengths
}

// Archive has versions of files.
type Archive struct{}

// Open opens an archive (P4).
func Open(d *api.Device, quota int) (*Archive, error) { return nil, nil }

// Put adds a version (P5).
func (a *Archive) Put(path string, content []byte) (int, error) { return 0, nil }

// Get tells a version's content (P6).
func (a *Archive) Get(path string, version int) ([]byte, error) { return nil, nil }

// ReadAt tells some of it (P6).
func (a *Archive) ReadAt(path string, version, at, n int) ([]byte, error) { return nil, nil }

// Versions tells the numbers of a path's versions (P7).
func (a *Archive) Versions(path string) ([]int, error) { return nil, nil }

// List tells the paths (P7).
func (a *Archive) List(prefix string) ([]api.Entry, error) { return nil, nil }

// Delete removes a version (P8).
func (a *Archive) Delete(path string, version int) error { return nil }

// Prune keeps the latest versions of a path (P8).
func (a *Archive) Prune(path string, keep int) (int, error) { return 0, nil }

// Tag holds a version by a name (P9).
func (a *Archive) Tag(name, path string, version int) error { return nil }

// Untag lets it go (P9).
func (a *Archive) Untag(name string) error { return nil }

// Tags tells all tags (P9).
func (a *Archive) Tags() ([]api.Pin, error) { return nil, nil }

// Collect frees what no version has (P10).
func (a *Archive) Collect() error { return nil }

// Stored tells what the device has (P10).
func (a *Archive) Stored() (api.Stored, error) { return api.Stored{}, nil }

// Sync makes all that was done safe (P11).
func (a *Archive) Sync() error { return nil }

// Close ends it (P11).
func (a *Archive) Close() error { return nil }
