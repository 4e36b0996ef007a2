// Package journal keeps changes on a device, one behind the other: behind a crash the first so many of them are there, and none by half.
//
// The first two sectors are slots, for marks; the others are parted into halves, one of which has the changes, each of which begins at a sector of its own. The newest mark tells which half it is: so the changes can be written anew to the other one, and none is lost while that goes on. Each sector has a sum, and a stamp: the turn of the mark that was the newest one when it was written. A journal writes a mark, and makes it safe, ahead of its first change: so no two journals write with the same stamp, and what a crash has left behind the last whole change is told from what is written there later.
package journal

import (
	"errors"
	"iter"

	"versions/api"
)

// Journal is a device with changes on it.
type Journal struct {
	device *api.Device
	mark   mark  // the newest one
	fresh  int   // the first sector that was written behind that mark, or end
	end    int   // the sector behind the last change
	begun  bool  // whether the newest mark is this journal's own
	fault  error // how the device failed
}

// change is a change, and the place where it begins.
type change struct {
	place int
	data  []byte
}

// Open goes through the changes that are on the device, and hands each of them on. Each place is a number of its own for a byte of a change; the bytes of one change have places that follow. The change's bytes are there only as long as each goes on, and there may be more of them, all 0, than were appended.
func Open(d *api.Device, each func(place int, change []byte) error) (*Journal, error) {
	j := &Journal{device: d}
	if err := j.findMark(); err != nil {
		return nil, err
	}
	for c, err := range j.changes() {
		if err != nil {
			return nil, err
		}
		if err := each(c.place, c.data); err != nil {
			return nil, located(err, c.place/room)
		}
	}
	j.fresh = j.end
	return j, nil
}

// located wraps an error with a sector's number.
func located(err error, at int) error {
	var n api.Errno
	if errors.As(err, &n) {
		return &api.SectorError{Sector: at, Err: n}
	}
	return err
}

// size is how many sectors a half has.
func (j *Journal) size() int { return (j.device.Sectors() - slots) / halves }

// begin is the first sector of a half.
func (j *Journal) begin(half int) int { return slots + half*j.size() }

// limit is the sector behind the half that has the changes.
func (j *Journal) limit() int { return j.begin(j.mark.half) + j.size() }

// findMark reads the slots. A crash leaves each of them as it was, or as it was written: so one that is no mark is corrupt.
func (j *Journal) findMark() error {
	var marks [slots]mark
	for at := range marks {
		s, err := j.read(at)
		if err != nil {
			return err
		}
		m, ok := markOf(at, s)
		if !ok || !j.isWithin(m) {
			return located(api.ErrCorrupt, at)
		}
		marks[at] = m
	}
	m, ok := newest(marks[0], marks[1])
	if !ok {
		return located(api.ErrCorrupt, m.slot())
	}
	j.mark = m
	return nil
}

// isWithin tells whether what a mark tells is on the device.
func (j *Journal) isWithin(m mark) bool {
	begin := j.begin(m.half)
	return m.half < halves && m.safe >= begin && m.safe <= begin+j.size()
}

// changes goes through all whole changes, and finds the end. At an error it ends.
func (j *Journal) changes() iter.Seq2[change, error] {
	return func(yield func(change, error) bool) {
		var buffer []byte
		stamp := uint64(1)
		for j.end = j.begin(j.mark.half); ; {
			data, last, err := j.next(buffer[:0], stamp)
			if err != nil {
				yield(change{}, err)
				return
			}
			if len(data) == 0 {
				return
			}
			if !yield(change{j.end * room, data}, nil) {
				return
			}
			buffer, stamp, j.end = data, last, j.end+sectorsOf(data)
		}
	}
}

// next reads the change at the end, into a buffer, and tells its stamp; there is none, if it is not whole. The stamps of changes do not fall, and those of one change are the same: else a sector is one that an earlier crash left, or that was there before the half was taken.
func (j *Journal) next(buffer []byte, least uint64) ([]byte, uint64, error) {
	for at := j.end; at < j.limit(); at++ {
		s, err := j.read(at)
		if err != nil {
			return nil, 0, err
		}
		l, ok := leafOf(at, s)
		fits := ok && l.stamp >= least && l.stamp <= j.mark.turn
		if !fits || at > j.end && l.stamp != least {
			return j.broken(at)
		}
		least = l.stamp
		buffer = append(buffer, l.data[:]...)
		if !l.more {
			return buffer, least, nil
		}
	}
	return j.broken(j.limit() - 1)
}

// broken tells what a change is that breaks off at a sector: where it was safe, the device does not have what was written; else a crash came.
func (j *Journal) broken(at int) ([]byte, uint64, error) {
	if j.end < j.mark.safe {
		return nil, 0, located(api.ErrCorrupt, at)
	}
	return nil, 0, nil
}

// Read fills a piece of memory with the bytes from a place on.
func (j *Journal) Read(place int, into []byte) error {
	for len(into) > 0 {
		at := place / room
		s, err := j.read(at)
		if err != nil {
			return err
		}
		l, ok := leafOf(at, s)
		if !ok {
			return located(api.ErrCorrupt, at)
		}
		n := copy(into, l.data[place%room:])
		into, place = into[n:], place+n
	}
	return nil
}

// Fault tells how the device failed: nothing can be changed behind that.
func (j *Journal) Fault() error { return j.fault }

func (j *Journal) read(at int) (api.Sector, error) {
	s, err := j.device.Read(at)
	return s, j.note(err)
}

func (j *Journal) write(at int, s api.Sector) error { return j.note(j.device.Write(at, s)) }

func (j *Journal) flush() error { return j.note(j.device.Flush()) }

// note keeps the first fault of the device: nothing is written behind it, for what ought to be ahead may be missing.
func (j *Journal) note(err error) error {
	if j.fault == nil {
		j.fault = err
	}
	return err
}
