package rule

import (
	"math"
	"slices"
	"testing"

	"octroi/packet"
)

// No test can call Class so often that a count is at its greatest number: so
// it is laid there.
func TestHitsStayAtTheGreatestNumber(t *testing.T) {
	last := Any()
	last.Proto = 6
	c, _ := New(false, 0, last)
	c.hits[0], c.hits[1] = math.MaxUint64-1, math.MaxUint64-2
	for range 3 {
		c.Class(packet.Key{Proto: 6})
		c.Class(packet.Key{Proto: 17})
	}
	if l := c.Hits(); !slices.Equal(l, []uint64{math.MaxUint64, math.MaxUint64}) {
		t.Errorf("%v", l)
	}
}
