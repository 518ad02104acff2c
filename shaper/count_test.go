package shaper

import (
	"math"
	"testing"

	"octroi/api"
	"octroi/fifo"
)

// TestCountsGoOnFromNothing: so many items can't be offered, so the counts are
// laid.
func TestCountsGoOnFromNothing(t *testing.T) {
	s, e := New(0, Class{Burst: 4096, Items: 2, Size: 4096})
	if e != api.OK {
		t.Fatal(e)
	}
	c := s.lanes[0]
	c.offered.Store(math.MaxUint64 - 1)
	c.dropped.Store(math.MaxUint64)
	c.out.Store(math.MaxUint64)
	c.bytes.Store(math.MaxUint64 - 9)
	for _, want := range []api.Errno{api.OK, api.OK, api.ErrQueue} {
		if e := s.Offer(0, fifo.Item{Size: 7}); e != want {
			t.Errorf("Offer: %v, not %v", e, want)
		}
	}
	s.Release(0)
	if n := s.Stat(0); n != (Stat{Offered: 1, Dropped: 0, Out: 1, Bytes: 4}) {
		t.Errorf("Stat: %v", n)
	}
}
