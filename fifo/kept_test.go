package fifo

import (
	"math"
	"testing"

	"octroi/api"
)

// TestDropsStopAtTheMost: so many drops can't be made, so the count is laid.
func TestDropsStopAtTheMost(t *testing.T) {
	q, _ := New(0, 0)
	q.drops = math.MaxUint64 - 1
	for range 3 {
		if e := q.Push(Item{}); e != api.ErrQueue || q.Drops() != math.MaxUint64 {
			t.Errorf("Push: %v, %d drops", e, q.Drops())
		}
	}
}

// TestNothingIsKeptOfWhatIsGone: a place without an item keeps none of its data.
func TestNothingIsKeptOfWhatIsGone(t *testing.T) {
	q, _ := New(6, 100)
	for range 3 {
		for range 6 {
			q.Push(Item{No: 1, Size: 1, Data: []byte{1}})
		}
		for range 4 {
			q.Pop()
		}
		if n := kept(q); n != q.Len() {
			t.Errorf("%d items are kept behind Pop, not %d", n, q.Len())
		}
	}
	q.Clear()
	if n := kept(q); n != 0 {
		t.Errorf("%d items are kept behind Clear", n)
	}
}

// TestNoMorePlacesThanItems: the ring is no longer than the bound, and short
// while few items are there.
func TestNoMorePlacesThanItems(t *testing.T) {
	for bound := range 40 {
		q, _ := New(bound, 100)
		for range bound {
			q.Push(Item{})
			if len(q.ring) < q.Len() || len(q.ring) > min(bound, 2*q.Len()) {
				t.Fatalf("%d places for %d items of %d", len(q.ring), q.Len(), bound)
			}
		}
	}
}

// kept is how many places of the ring keep something.
func kept(q *Queue) int {
	n := 0
	for _, x := range q.ring {
		if x.No != 0 || x.Size != 0 || x.Data != nil {
			n++
		}
	}
	return n
}
