package store

import "versions/api"

// slots are the first sectors. Marks are written to them by turns: so while one is written, the one ahead of it is there.
const slots = 2

// tables are written by turns too, each by the turn of its mark.
const tables = 2

// reserve is how many sectors have no page, however full the device is: to cut one piece out takes so many, and so does filling pages up.
const reserve = 2

// layout tells what stands where on a device of so many sectors.
type layout struct{ sectors int }

// width is how many bytes the number of a sector has in a table.
func (l layout) width() int {
	if l.sectors <= 1<<16 {
		return 2
	}
	return 4
}

// entries is how many numbers of sectors a sector of a table has room for.
func (l layout) entries() int { return (api.SectorSize - bodyAt) / l.width() }

// tableSize is how many sectors a table may take: as many as it needs, when all behind the tables have pages.
func (l layout) tableSize() int { return ceil(l.sectors-slots, l.entries()+tables) }

// tableAt is the first sector of the table that is written in a turn.
func (l layout) tableAt(turn uint64) int { return slots + int(turn%tables)*l.tableSize() }

// firstPage is the first sector that may have a page.
func (l layout) firstPage() int { return slots + tables*l.tableSize() }

// pages is how many sectors may have one.
func (l layout) pages() int { return l.sectors - l.firstPage() }

// mostPages is how many of them have one at the most: some are free always.
func (l layout) mostPages() int { return l.pages() - reserve }

// ceil is how many times n must be taken, until that is a.
func ceil(a, n int) int { return (a + n - 1) / n }
