package versions

import (
	"versions/api"
	"versions/catalog"
)

// callCost is how many bytes P12 counts for a call, and for a version that was there.
const callCost = 300

// account counts what P12 counts.
type account struct {
	bound int // so much is promised
	taken int
}

func accountOf(d *api.Device) account {
	return account{bound: d.Sectors()*api.SectorSize/4 - 2000}
}

// begin begins to count anew, with the versions that are there.
func (c *account) begin(there *catalog.Catalog) {
	c.taken = there.Bytes() + callCost*there.Versions()
}

// take counts a call, with the bytes that are handed in. Beyond the bound nothing is counted: so the count does not wrap round, however many calls come.
func (c *account) take(bytes int) {
	if c.promised() {
		c.taken += callCost + bytes
	}
}

// promised tells whether there must be room for the last call that was counted.
func (c *account) promised() bool { return c.taken <= c.bound }

// need is how many bytes the records can have of all that is promised. A chunk of 16 bytes has 25 at the most, with its head, its number, and its number in the version; but with each content of 4000 bytes 300 more are counted, of which the other records need few: so half as much again as is counted is enough.
func (c *account) need() int { return max(c.bound, 0) * 3 / 2 }
