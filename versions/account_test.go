package versions

import (
	"math"
	"testing"

	"versions/api"
	"versions/catalog"
)

// P12: what is promised ends at the bound, and nothing that comes behind it is promised again until the count begins anew.
func TestAccount(t *testing.T) {
	for _, sectors := range []int{16, 62, 72, 200} {
		c := accountOf(api.NewDevice(sectors))
		bound := sectors*32 - 2000
		for range 2 {
			c.begin(catalog.New())
			for n := 1; n <= 30; n++ {
				if c.take(0); c.promised() != (300*n <= bound) {
					t.Errorf("%d sectors, %d calls: promised %t", sectors, n, c.promised())
				}
			}
			for range 9 {
				if c.take(math.MaxInt / 4); c.promised() {
					t.Errorf("%d sectors: promised beyond the bound", sectors)
				}
			}
		}
	}
}
