// Package store keeps a string of bytes on a device, to which bytes can be appended, and out of which pieces can be cut. Each change is there as a whole or not at all, and is safe as soon as it is made.
//
// The first two sectors are slots, for marks; behind them stand two tables; each other sector is free, or has a page: some bytes of the string. A table tells which sectors have the pages, in their order. A change writes those pages that are new to free sectors, and a table to the stead of the older one; when these are safe, it writes a mark to the older one's slot. The newest mark tells which table counts: so until then nothing that counts is written over.
package store

import (
	"errors"
	"slices"

	"versions/api"
)

// Span is a piece of the string.
type Span struct{ Place, Size int }

// End is the place behind it.
func (s Span) End() int { return s.Place + s.Size }

// page is a piece of the string, and the sector that has it.
type page struct {
	Span
	sector int
}

// Store is a device with a string on it.
type Store struct {
	device *api.Device
	layout layout
	mark   mark   // the newest one
	pages  []page // in their order; none is empty
	free   []int  // the sectors that have no page
	fault  error  // how the device failed
}

// Open tells the string that is on the device, too.
func Open(d *api.Device) (*Store, []byte, error) {
	s := &Store{device: d, layout: layout{d.Sectors()}}
	if err := s.findMark(); err != nil {
		return nil, nil, err
	}
	sectors, err := s.readTable()
	if err != nil {
		return nil, nil, err
	}
	all, err := s.readPages(sectors)
	if err != nil {
		return nil, nil, err
	}
	return s, all, nil
}

// findMark reads the slots. A crash leaves each of them as it was, or as it was written: so one that is no mark is corrupt.
func (s *Store) findMark() error {
	var marks [slots]mark
	for at := range marks {
		sector, err := s.read(at)
		if err != nil {
			return err
		}
		m, ok := markOf(at, sector)
		if !ok || m.pages > s.layout.mostPages() {
			return located(api.ErrCorrupt, at)
		}
		marks[at] = m
	}
	m, ok := newest(marks[0], marks[1])
	if !ok {
		return located(api.ErrCorrupt, m.slot())
	}
	s.mark = m
	return nil
}

// readPages reads the pages from these sectors, and tells all their bytes. The other sectors are free.
func (s *Store) readPages(sectors []int) ([]byte, error) {
	var all []byte
	for _, at := range sectors {
		data, err := s.readPage(at)
		if err != nil {
			return nil, err
		}
		s.pages = append(s.pages, page{Span{len(all), len(data)}, at})
		all = append(all, data...)
	}
	slices.Sort(sectors)
	// The lowest ones come last, for from there they are taken.
	for at := s.layout.sectors - 1; at >= s.layout.firstPage(); at-- {
		if _, ok := slices.BinarySearch(sectors, at); !ok {
			s.free = append(s.free, at)
		}
	}
	return all, nil
}

// Size is how many bytes the string has.
func (s *Store) Size() int {
	if len(s.pages) == 0 {
		return 0
	}
	return s.pages[len(s.pages)-1].End()
}

// Most is how many bytes the string can have, if so many sectors are left free beside the reserve.
func (s *Store) Most(leave int) int { return max(s.layout.mostPages()-leave, 0) * room }

// Read fills a piece of memory with the bytes from a place on, which are there.
func (s *Store) Read(place int, into []byte) error {
	i, _ := slices.BinarySearchFunc(s.pages, place, func(p page, place int) int { return p.End() - place - 1 })
	for ; len(into) > 0; i++ {
		p := s.pages[i]
		data, err := s.readPage(p.sector)
		if err != nil {
			return err
		}
		n := copy(into, data[place-p.Place:])
		into, place = into[n:], place+n
	}
	return nil
}

// readPage tells the bytes of the page that a sector has.
func (s *Store) readPage(at int) ([]byte, error) {
	sector, err := s.read(at)
	if err != nil {
		return nil, err
	}
	data, ok := pageOf(at, sector)
	if !ok {
		return nil, located(api.ErrCorrupt, at)
	}
	return data, nil
}

// Sync answers how the device failed, or fails now: each change is safe as soon as it is made.
func (s *Store) Sync() error {
	if s.fault != nil {
		return s.fault
	}
	return s.flush()
}

// Fault tells how the device failed: nothing can be changed behind that.
func (s *Store) Fault() error { return s.fault }

func (s *Store) read(at int) (api.Sector, error) {
	sector, err := s.device.Read(at)
	return sector, s.note(err)
}

func (s *Store) write(at int, sector api.Sector) error { return s.note(s.device.Write(at, sector)) }

func (s *Store) flush() error { return s.note(s.device.Flush()) }

// note keeps the first fault of the device: nothing is written behind it, for what ought to be ahead may be missing.
func (s *Store) note(err error) error {
	if s.fault == nil {
		s.fault = err
	}
	return err
}

// located wraps an error with a sector's number.
func located(err error, at int) error {
	var n api.Errno
	if errors.As(err, &n) {
		return &api.SectorError{Sector: at, Err: n}
	}
	return err
}
