// Package journal keeps changes on a device, one behind the other: behind a crash the first so many of them are there, and none by half.
//
// The first two sectors are slots, for marks; behind them come the changes, each of which begins at a sector of its own. Each sector has a sum, and a stamp: the turn of the mark that was the newest one when it was written. A journal writes a mark, and makes it safe, ahead of its first change: so no two journals write with the same stamp, and what a crash has left behind the last whole change is told from what is written there later.
package journal

import (
	"errors"
	"iter"

	"versions/api"
)

// Journal is a device with changes on it.
type Journal struct {
	device *api.Device
	mark   mark  // the newest one
	end    int   // the sector behind the last change
	begun  bool  // whether the newest mark is this journal's own
	fault  error // how the device failed
}

// change is a change, and the place where it begins.
type change struct {
	place int
	data  []byte
}

// Open goes through the changes that are on the device, and hands each of them on. Each place is a number of its own for a byte of a change; the bytes of one change have places that follow. The change's bytes are there only as long as each goes on, and there may be more of them, all 0, than were appended.
func Open(d *api.Device, each func(place int, change []byte) error) (*Journal, error) {
	j := &Journal{device: d}
	if err := j.findMark(); err != nil {
		return nil, err
	}
	for c, err := range j.changes() {
		if err != nil {
			return nil, err
		}
		if err := each(c.place, c.data); err != nil {
			return nil, located(err, c.place/room)
		}
	}
	return j, nil
}

// located wraps an error with a sector's number.
func located(err error, at int) error {
	var n api.Errno
	if errors.As(err, &n) {
		return &api.SectorError{Sector: at, Err: n}
	}
	return err
}

// findMark reads the slots. A crash leaves each of them as it was, or as it was written: so one that is no mark is corrupt.
func (j *Journal) findMark() error {
	var marks [slots]mark
	for at := range marks {
		s, err := j.read(at)
		if err != nil {
			return err
		}
		m, ok := markOf(at, s, j.device.Sectors())
		if !ok {
			return located(api.ErrCorrupt, at)
		}
		marks[at] = m
	}
	m, ok := newest(marks[0], marks[1])
	if !ok {
		return located(api.ErrCorrupt, m.slot())
	}
	j.mark = m
	return nil
}

// changes goes through all whole changes, and finds the end. At an error it ends.
func (j *Journal) changes() iter.Seq2[change, error] {
	return func(yield func(change, error) bool) {
		var buffer []byte
		stamp := uint64(1)
		for j.end = slots; ; {
			data, last, err := j.next(buffer[:0], stamp)
			if err != nil {
				yield(change{}, err)
				return
			}
			if len(data) == 0 {
				return
			}
			if !yield(change{j.end * room, data}, nil) {
				return
			}
			buffer, stamp, j.end = data, last, j.end+len(data)/room
		}
	}
}

// next reads the change at the end, into a buffer, and tells its stamp; there is none, if it is not whole. The stamps of changes do not fall, and those of one change are the same: else a sector is one that an earlier crash left.
func (j *Journal) next(buffer []byte, least uint64) ([]byte, uint64, error) {
	for at := j.end; at < j.device.Sectors(); at++ {
		s, err := j.read(at)
		if err != nil {
			return nil, 0, err
		}
		l, ok := leafOf(at, s)
		fits := ok && l.stamp >= least && l.stamp <= j.mark.turn
		if !fits || at > j.end && l.stamp != least {
			return j.broken(at)
		}
		least = l.stamp
		buffer = append(buffer, l.data[:]...)
		if !l.more {
			return buffer, least, nil
		}
	}
	return j.broken(j.device.Sectors() - 1)
}

// broken tells what a change is that breaks off at a sector: where it was safe, the device does not have what was written; else a crash came.
func (j *Journal) broken(at int) ([]byte, uint64, error) {
	if j.end < j.mark.safe {
		return nil, 0, located(api.ErrCorrupt, at)
	}
	return nil, 0, nil
}

// Append writes a change behind all others, and tells the place where it begins.
func (j *Journal) Append(data []byte) (int, error) {
	if j.fault != nil {
		return 0, j.fault
	}
	n := (len(data) + room - 1) / room
	if n > j.device.Sectors()-j.end {
		return 0, api.ErrFull
	}
	if !j.begun {
		if err := j.settle(); err != nil {
			return 0, err
		}
	}
	for at := j.end; at < j.end+n; at++ {
		l := leaf{stamp: j.mark.turn, more: at < j.end+n-1}
		data = data[copy(l.data[:], data):]
		if err := j.write(at, l.sector(at)); err != nil {
			return 0, err
		}
	}
	place := j.end * room
	j.end += n
	return place, nil
}

// Read fills a piece of memory with the bytes from a place on.
func (j *Journal) Read(place int, into []byte) error {
	for len(into) > 0 {
		at := place / room
		s, err := j.read(at)
		if err != nil {
			return err
		}
		l, ok := leafOf(at, s)
		if !ok {
			return located(api.ErrCorrupt, at)
		}
		n := copy(into, l.data[place%room:])
		into, place = into[n:], place+n
	}
	return nil
}

// Sync makes all changes safe.
func (j *Journal) Sync() error {
	if j.fault != nil {
		return j.fault
	}
	if j.mark.safe == j.end {
		return j.flush()
	}
	return j.settle()
}

// settle makes all changes safe, and writes a mark that says so. The mark comes behind them, for it must not be there without them.
func (j *Journal) settle() error {
	if err := j.verify(); err != nil {
		return err
	}
	if err := j.flush(); err != nil {
		return err
	}
	m := mark{turn: j.mark.turn + 1, safe: j.end}
	if err := j.write(m.slot(), m.sector()); err != nil {
		return err
	}
	if err := j.flush(); err != nil {
		return err
	}
	j.mark, j.begun = m, true
	return nil
}

// verify reads again what this journal wrote since its newest mark: the next one must not say of what a crash took away meanwhile that it is safe.
func (j *Journal) verify() error {
	if !j.begun {
		return nil
	}
	for at := j.mark.safe; at < j.end; at++ {
		s, err := j.read(at)
		if err != nil {
			return err
		}
		if l, ok := leafOf(at, s); !ok || l.stamp != j.mark.turn {
			return j.note(located(api.ErrCorrupt, at))
		}
	}
	return nil
}

func (j *Journal) read(at int) (api.Sector, error) {
	s, err := j.device.Read(at)
	return s, j.note(err)
}

func (j *Journal) write(at int, s api.Sector) error { return j.note(j.device.Write(at, s)) }

func (j *Journal) flush() error { return j.note(j.device.Flush()) }

// note keeps the first fault of the device: nothing is written behind it, for what ought to be ahead may be missing.
func (j *Journal) note(err error) error {
	if j.fault == nil {
		j.fault = err
	}
	return err
}
