package store

import (
	"slices"

	"versions/api"
)

// draft is what the pages are to be.
type draft struct {
	pages []page   // those that are new have the sector 0
	fresh [][]byte // the bytes of the new ones, in their order
	freed []int    // the sectors of the old ones
	size  int      // of all pages so far
}

// draft has nothing yet, but the room for as many pages as there are.
func (s *Store) draft() draft { return draft{pages: make([]page, 0, len(s.pages))} }

// keep lets a page be as it is, but for its place.
func (d *draft) keep(p page) {
	d.add(p.sector, p.Size)
}

// lay adds new pages that have these bytes.
func (d *draft) lay(data []byte) {
	for piece := range slices.Chunk(data, room) {
		d.add(0, len(piece))
		d.fresh = append(d.fresh, slices.Clone(piece))
	}
}

func (d *draft) add(sector, size int) {
	d.pages = append(d.pages, page{Span{d.size, size}, sector})
	d.size += size
}

// Append appends bytes to the string. So many sectors must be free behind that, beside the reserve.
func (s *Store) Append(data []byte, leave int) error {
	d := s.draft()
	kept := s.pages
	if n := len(kept) - 1; n >= 0 && kept[n].Size < room {
		kept = kept[:n]
	}
	for _, p := range kept {
		d.keep(p)
	}
	last, err := s.take(&d, s.pages[len(kept):])
	if err != nil {
		return err
	}
	d.lay(append(last, data...))
	return s.commit(d, leave)
}

// Cut cuts pieces out of the string, which do not overlap, in their order.
func (s *Store) Cut(cuts []Span) error {
	d := s.draft()
	var left []byte // of the pages ahead that are cut
	for _, p := range s.pages {
		for len(cuts) > 0 && cuts[0].End() <= p.Place {
			cuts = cuts[1:]
		}
		if len(cuts) == 0 || cuts[0].Place >= p.End() {
			d.lay(left)
			d.keep(p)
			left = nil
			continue
		}
		data, err := s.take(&d, []page{p})
		if err != nil {
			return err
		}
		left = appendLeft(left, data, p.Place, cuts)
	}
	d.lay(left)
	return s.commit(d, 0)
}

// appendLeft appends what the cuts leave of bytes that stand at a place.
func appendLeft(b, data []byte, place int, cuts []Span) []byte {
	at := place
	for _, cut := range cuts {
		if cut.Place >= place+len(data) {
			break
		}
		if cut.Place > at {
			b = append(b, data[at-place:cut.Place-place]...)
		}
		at = cut.End()
	}
	return append(b, data[min(at-place, len(data)):]...)
}

// Tighten fills all pages up but the last one.
func (s *Store) Tighten() error {
	for i := 0; i < len(s.pages)-1; {
		if s.pages[i].Size == room {
			i++
			continue
		}
		d := s.draft()
		end := min(i+len(s.free), len(s.pages))
		for _, p := range s.pages[:i] {
			d.keep(p)
		}
		data, err := s.take(&d, s.pages[i:end])
		if err != nil {
			return err
		}
		d.lay(data)
		for _, p := range s.pages[end:] {
			d.keep(p)
		}
		if err := s.commit(d, 0); err != nil {
			return err
		}
	}
	return nil
}

// take reads pages that are not kept, and tells all their bytes.
func (s *Store) take(d *draft, pages []page) ([]byte, error) {
	var all []byte
	for _, p := range pages {
		data, err := s.readPage(p.sector)
		if err != nil {
			return nil, err
		}
		all = append(all, data...)
		d.freed = append(d.freed, p.sector)
	}
	return all, nil
}

// commit makes the pages what the draft says, if there is room for the new ones beside all that there are; then so many sectors must be free, beside the reserve.
func (s *Store) commit(d draft, leave int) error {
	if s.fault != nil {
		return s.fault
	}
	left := len(s.free) - len(d.fresh)
	if left < 0 || left+len(d.freed) < reserve+leave {
		return api.ErrFull
	}
	if err := s.writePages(d); err != nil {
		return err
	}
	m := mark{s.mark.next(), len(d.pages)}
	if err := s.writeTable(m.turn, d.pages); err != nil {
		return err
	}
	// The mark must not be there without what it tells of.
	if err := s.flush(); err != nil {
		return err
	}
	if err := s.write(m.slot(), m.sector()); err != nil {
		return err
	}
	if err := s.flush(); err != nil {
		return err
	}
	s.mark, s.pages, s.free = m, d.pages, append(s.free[:left], d.freed...)
	return nil
}

// writePages writes the new pages of a draft to free sectors, the last ones first.
func (s *Store) writePages(d draft) error {
	free := s.free
	for i, p := range d.pages {
		if p.sector != 0 {
			continue
		}
		at := free[len(free)-1]
		free = free[:len(free)-1]
		if err := s.write(at, pageSector(at, d.fresh[0])); err != nil {
			return err
		}
		d.pages[i].sector, d.fresh = at, d.fresh[1:]
	}
	return nil
}
