package versions

import (
	"errors"

	"versions/api"
	"versions/catalog"
)

// draft appends a change to a buffer, which is answered beside an error too.
type draft func(buffer []byte) ([]byte, error)

// grow commits a change by which there is more. It leaves a sector free, so that it can be taken away again, however full the device is.
func (a *Archive) grow(d draft) error { return a.commit(d, 1) }

// shrink commits a change by which there is less.
func (a *Archive) shrink(d draft) error { return a.commit(d, 0) }

// commit writes a change to the device, and takes it into the catalog. If there is no room for it, the changes ahead are written anew, which takes less; then it is drafted anew too, for chunks have other numbers there.
func (a *Archive) commit(d draft, leave int) error {
	if err := a.log.Fault(); err != nil {
		return err
	}
	err := a.write(d, leave)
	if !errors.Is(err, api.ErrFull) {
		return err
	}
	if err := a.makeRoom(); err != nil {
		return err
	}
	return a.write(d, leave)
}

// write writes a change where there is room for it already.
func (a *Archive) write(d draft, leave int) error {
	change, err := d(a.spare.Take())
	defer a.spare.Give(change)
	if err != nil {
		return err
	}
	place, err := a.log.Append(change, leave)
	if err != nil {
		return err
	}
	return a.catalog.Apply(place, change)
}

// makeRoom writes all that there is anew, if that takes less. No chunk is freed: but for Collect no call changes what is stored (P10).
func (a *Archive) makeRoom() error {
	image, err := a.catalog.Image(a.catalog.Chunks(), a.log.Read)
	if err != nil {
		return err
	}
	if !a.log.Shrinks(image) {
		return api.ErrFull
	}
	return a.replace(image)
}

// replace puts a change in the stead of all others.
func (a *Archive) replace(image []byte) error {
	place, err := a.log.Replace(image)
	if err != nil {
		return err
	}
	renewed := catalog.New()
	if err := renewed.Apply(place, image); err != nil {
		return err
	}
	a.catalog = renewed
	return nil
}
