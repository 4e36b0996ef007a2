package store

import (
	"versions/api"
	"versions/pack"
)

// readTable tells the sectors of the pages, from the table that counts.
func (s *Store) readTable() ([]int, error) {
	var sectors []int
	seen := map[int]struct{}{}
	for at := s.layout.tableAt(s.mark.turn); len(sectors) < s.mark.pages; at++ {
		t, err := s.read(at)
		if err != nil {
			return nil, err
		}
		if !intact(at, t) {
			return nil, located(api.ErrCorrupt, at)
		}
		for i := range min(s.layout.entries(), s.mark.pages-len(sectors)) {
			n := int(pack.Number(s.entry(&t, i)))
			if _, ok := seen[n]; ok || n < s.layout.firstPage() || n >= s.layout.sectors {
				return nil, located(api.ErrCorrupt, at)
			}
			seen[n] = struct{}{}
			sectors = append(sectors, n)
		}
	}
	return sectors, nil
}

// writeTable writes the table of these pages, in that turn.
func (s *Store) writeTable(turn uint64, pages []page) error {
	for at := s.layout.tableAt(turn); len(pages) > 0; at++ {
		var t api.Sector
		n := min(len(pages), s.layout.entries())
		for i, p := range pages[:n] {
			pack.Put(s.entry(&t, i), uint64(p.sector))
		}
		if err := s.write(at, sealed(at, t)); err != nil {
			return err
		}
		pages = pages[n:]
	}
	return nil
}

// entry is where the number of a sector stands in a table's sector.
func (s *Store) entry(t *api.Sector, i int) []byte {
	w := s.layout.width()
	return t[bodyAt+i*w : bodyAt+(i+1)*w]
}
