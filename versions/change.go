package versions

import (
	"errors"

	"versions/api"
	"versions/record"
	"versions/store"
)

// How many sectors must be free behind a change, beside the store's reserve. Out of that one record can be cut always: so what is there can be taken away again, however full the device is. To prune takes one more.
const (
	leavePruned = 0
	leaveGrown  = 1
)

// draft appends records to a buffer, which is answered beside an error too.
type draft func(buffer []byte) ([]byte, error)

// tagging drafts a tag. Of tags that were there when an archive is opened P12 counts none: so one that it does not promise must leave room for all that it promises.
func (a *Archive) tagging(name string, version uint32) draft {
	return func(buffer []byte) ([]byte, error) {
		change := record.AppendTag(buffer, name, version)
		room := a.store.Most(leaveGrown) - a.account.need()
		if !a.account.promised() && a.catalog.TagBytes()+len(change) > room {
			return change, api.ErrFull
		}
		return change, nil
	}
}

// ready answers an error, if nothing can be changed. If the last change was a Prune, it ends it: the records of what that has deleted are cut out, and then its own one, for behind the next change it could say something else.
func (a *Archive) ready() error {
	if err := a.usable(); err != nil {
		return err
	}
	if err := a.store.Fault(); err != nil {
		return err
	}
	if len(a.catalog.Prunes()) == 0 {
		return nil
	}
	if err := a.cut(a.catalog.Forgotten()); err != nil {
		return err
	}
	return a.cut(a.catalog.Prunes())
}

// write appends what is drafted to the records. If there is no room for it, room is made; so many sectors must be free behind it.
func (a *Archive) write(d draft, leave int) error {
	if err := a.ready(); err != nil {
		return err
	}
	change, err := d(a.spare.Take())
	defer a.spare.Give(change)
	if err != nil {
		return err
	}
	err = a.store.Append(change, leave)
	if errors.Is(err, api.ErrFull) {
		if err := a.makeRoom(len(change), leave); err != nil {
			return err
		}
		err = a.store.Append(change, leave)
	}
	if err != nil {
		return err
	}
	return a.catalog.Apply(a.store.Size()-len(change), change)
}

// makeRoom lets what is not needed go, so that there is room for so many bytes. Chunks that are known stay: but for Collect no call changes what is stored (P10).
func (a *Archive) makeRoom(bytes, leave int) error {
	if err := a.cut(a.catalog.Forgotten()); err != nil {
		return err
	}
	// To fill pages up is much to write, so it is not done in vain.
	if a.store.Size()+bytes > a.store.Most(leave) {
		return api.ErrFull
	}
	return a.store.Tighten()
}

// remove cuts a record out: that is a change of its own. Where the record stands is asked last, for what is done ahead of that may move it.
func (a *Archive) remove(at *store.Span) error {
	if err := a.ready(); err != nil {
		return err
	}
	return a.cut([]store.Span{*at})
}

// cut cuts records out: all at once, or, if there is no room to do so, some of them and then the others. It goes from the end on: so the others stay where they are, and no chunk goes ahead of a version that has it, which Open would miss.
func (a *Archive) cut(records []store.Span) error {
	if len(records) == 0 {
		return nil
	}
	err := a.store.Cut(records)
	if n := len(records) / 2; n > 0 && errors.Is(err, api.ErrFull) {
		if err := a.cut(records[n:]); err != nil {
			return err
		}
		return a.cut(records[:n])
	}
	if err != nil {
		return err
	}
	a.catalog.Cut(records)
	return nil
}
