package shaper_test

import (
	"bytes"
	"math"
	"math/big"
	"math/rand"
	"slices"
	"testing"

	"octroi/api"
	"octroi/fifo"
	"octroi/shaper"
)

const (
	// most is the greatest number there is.
	most = math.MaxUint64
	// mostItems is the greatest bound of a queue's items.
	mostItems = 65536
)

// told is a shaper as the section 'Words' tells it: it goes on tick by tick, and
// its buckets' numbers have no end.
type told struct {
	tick    uint64
	classes []*toldClass
}

type toldClass struct {
	shaper.Class
	tokens *big.Int
	row    []fifo.Item
	stat   shaper.Stat
}

func number(n uint64) *big.Int { return new(big.Int).SetUint64(n) }

func newTold(tick uint64, l []shaper.Class) *told {
	w := &told{tick: tick}
	for _, c := range l {
		w.classes = append(w.classes, &toldClass{Class: c, tokens: number(c.Burst)})
	}
	return w
}

// covered tells whether there is a head, and the tokens are as many as its size.
func (c *toldClass) covered() bool {
	return len(c.row) > 0 && c.tokens.Cmp(big.NewInt(int64(c.row[0].Size))) >= 0
}

// fill puts in what comes in so many ticks.
func (c *toldClass) fill(ticks uint64) {
	come := new(big.Int).Mul(number(c.Rate), number(ticks))
	if c.tokens.Add(c.tokens, come); c.tokens.Cmp(number(c.Burst)) > 0 {
		c.tokens = number(c.Burst)
	}
}

func (c *toldClass) room(size int) bool {
	sum := uint64(size)
	for _, x := range c.row {
		sum += uint64(x.Size)
	}
	return len(c.row) < c.Items && sum <= uint64(c.Size)
}

func (w *told) offer(class int, x fifo.Item) api.Errno {
	if class < 0 || class >= len(w.classes) || x.Size < 0 || x.Size > 2048 {
		return api.ErrArg
	}
	c := w.classes[class]
	c.stat.Offered++
	if !c.room(x.Size) {
		c.stat.Dropped++
		return api.ErrQueue
	}
	x.Data = append([]byte(nil), x.Data...)
	c.row = append(c.row, x)
	return api.OK
}

// first is the least class whose head is covered now; -1, if none is.
func (w *told) first() int {
	for i, c := range w.classes {
		if c.covered() {
			return i
		}
	}
	return -1
}

// send lets the head of a class go out.
func (w *told) send(class int) shaper.Out {
	c := w.classes[class]
	x := c.row[0]
	c.row = c.row[1:]
	c.tokens.Sub(c.tokens, big.NewInt(int64(x.Size)))
	c.stat.Out++
	c.stat.Bytes += uint64(x.Size)
	return shaper.Out{At: w.tick, Class: class, Item: x}
}

// release goes through all ticks, so a tick must not be far.
func (w *told) release(tick uint64) []shaper.Out {
	var l []shaper.Out
	for {
		for i := w.first(); i >= 0; i = w.first() {
			l = append(l, w.send(i))
		}
		if w.tick >= tick {
			return l
		}
		w.tick++
		for _, c := range w.classes {
			c.fill(1)
		}
	}
}

// next is the first tick at which a head is covered, found by halves, as tokens
// never get fewer when nothing goes out.
func (w *told) next() (uint64, bool) {
	covered := func(ticks uint64) bool {
		for _, c := range w.classes {
			later := *c
			later.tokens = new(big.Int).Set(c.tokens)
			if later.fill(ticks); later.covered() {
				return true
			}
		}
		return false
	}
	lo, hi := uint64(0), most-w.tick
	if !covered(hi) {
		return 0, false
	}
	for lo < hi {
		if mid := lo + (hi-lo)/2; covered(mid) {
			hi = mid
		} else {
			lo = mid + 1
		}
	}
	return w.tick + lo, true
}

func (w *told) clear() int {
	n := 0
	for _, c := range w.classes {
		n += len(c.row)
		c.row = nil
	}
	return n
}

// made is a shaper that may be, and the one that is told.
func made(t *testing.T, tick uint64, l ...shaper.Class) (*shaper.Shaper, *told) {
	t.Helper()
	s, e := shaper.New(tick, l...)
	if s == nil || e != api.OK {
		t.Fatalf("New(%d, %v): %v, %v", tick, l, s, e)
	}
	return s, newTold(tick, l)
}

// equal tells whether two items are the same: no data and empty data are.
func equal(a, b fifo.Item) bool {
	return a.No == b.No && a.Size == b.Size && bytes.Equal(a.Data, b.Data)
}

// spoil changes all of an item's data, and what lies behind its length.
func spoil(x fifo.Item) {
	l := x.Data[:cap(x.Data)]
	for i := range l {
		l[i] ^= 0xFF
	}
}

// item is one with data that lie in a longer row.
func item(no uint64, size int) fifo.Item {
	row := []byte{byte(no), byte(no >> 8), byte(size), 7, 8, 9}
	return fifo.Item{No: no, Size: size, Data: row[:no%5]}
}

// offer offers to both, holds the answers against each other, and spoils what
// was handed in.
func offer(t *testing.T, s *shaper.Shaper, w *told, class int, x fifo.Item) {
	t.Helper()
	if e, want := s.Offer(class, x), w.offer(class, x); e != want {
		t.Fatalf("Offer(%d, size %d): %v, not %v", class, x.Size, e, want)
	}
	spoil(x)
}

// release lets both go on, and spoils what is answered: if two shared memory,
// the one that was spoilt first would be told later.
func release(t *testing.T, s *shaper.Shaper, w *told, tick uint64) []shaper.Out {
	t.Helper()
	l, want := s.Release(tick), w.release(tick)
	sameOuts(t, l, want)
	for _, o := range l {
		spoil(o.Item)
	}
	same(t, s, w)
	return want
}

func sameOuts(t *testing.T, l, want []shaper.Out) {
	t.Helper()
	if len(l) != len(want) {
		t.Fatalf("%d went out, not %d", len(l), len(want))
	}
	for i, o := range l {
		if o.At != want[i].At || o.Class != want[i].Class || !equal(o.Item, want[i].Item) {
			t.Fatalf("the one in place %d: %v, not %v", i, o, want[i])
		}
	}
}

// same holds what a shaper tells against what is told of it. It spoils what is
// answered, which must change nothing.
func same(t *testing.T, s *shaper.Shaper, w *told) {
	t.Helper()
	if s.Tick() != w.tick {
		t.Fatalf("Tick(): %d, not %d", s.Tick(), w.tick)
	}
	at, ok := s.Next()
	if want, wantOk := w.next(); at != want || ok != wantOk {
		t.Fatalf("Next() at %d: %d, %v, not %d, %v", w.tick, at, ok, want, wantOk)
	}
	for i, c := range w.classes {
		if n := s.Stat(i); n != c.stat {
			t.Fatalf("Stat(%d): %v, not %v", i, n, c.stat)
		}
		for range 2 {
			l := s.Queued(i)
			if !slices.EqualFunc(l, c.row, equal) {
				t.Fatalf("Queued(%d): %v, not %v", i, l, c.row)
			}
			for _, x := range l {
				spoil(x)
			}
		}
	}
}

// class is one with room for all that a test offers.
func class(rate, burst uint64) shaper.Class {
	return shaper.Class{Rate: rate, Burst: burst, Items: 1000, Size: math.MaxInt}
}

func TestExamples(t *testing.T) {
	s, _ := made(t, 5, class(1, 2048), class(2, 2048))
	for _, c := range []struct{ class, size int }{{1, 2048}, {0, 2000}, {1, 3}} {
		if e := s.Offer(c.class, fifo.Item{Size: c.size}); e != api.OK {
			t.Errorf("Offer(%d, size %d): %v", c.class, c.size, e)
		}
	}
	sameOuts(t, s.Release(5), []shaper.Out{
		{At: 5, Class: 0, Item: fifo.Item{Size: 2000}},
		{At: 5, Class: 1, Item: fifo.Item{Size: 2048}},
	})
	if at, ok := s.Next(); at != 7 || !ok {
		t.Errorf("Next(): %d, %v", at, ok)
	}
	sameOuts(t, s.Release(9), []shaper.Out{{At: 7, Class: 1, Item: fifo.Item{Size: 3}}})
	if s.Tick() != 9 {
		t.Errorf("Tick(): %d", s.Tick())
	}
}

// TestManyOfOneSize is the second example of the whole: 60 packets of 40 bytes
// at one tick, of rate 200 and burst 2048.
func TestManyOfOneSize(t *testing.T) {
	s, w := made(t, 0, shaper.Class{Rate: 200, Burst: 2048, Items: 100, Size: 100000})
	for no := range uint64(60) {
		offer(t, s, w, 0, item(no, 40))
	}
	for tick, want := range []int{51, 5, 4, 0} {
		if l := release(t, s, w, uint64(tick)); len(l) != want {
			t.Errorf("%d went out at %d, not %d", len(l), tick, want)
		}
	}
}

func TestClassesThatMayBe(t *testing.T) {
	right := shaper.Class{Burst: 2048}
	for n := range 12 {
		s, e := shaper.New(3, slices.Repeat([]shaper.Class{right}, n)...)
		if may := n >= 1 && n <= 8; may != (s != nil) || may != (e == api.OK) || !may && e != api.ErrArg {
			t.Errorf("New of %d classes: %v, %v", n, s, e)
		}
	}
	for _, c := range []struct {
		class shaper.Class
		may   bool
	}{
		{shaper.Class{Burst: 2048}, true},
		{shaper.Class{Burst: 2047}, false},
		{shaper.Class{Burst: 0}, false},
		{shaper.Class{Rate: 5000, Burst: 1}, false},
		{shaper.Class{Burst: most}, true},
		{shaper.Class{Rate: most, Burst: most}, true},
		{shaper.Class{Burst: 2048, Items: -1}, false},
		{shaper.Class{Burst: 2048, Items: math.MinInt}, false},
		{shaper.Class{Burst: 2048, Items: mostItems}, true},
		{shaper.Class{Burst: 2048, Items: mostItems + 1}, false},
		{shaper.Class{Burst: 2048, Items: math.MaxInt}, false},
		{shaper.Class{Burst: 2048, Size: -1}, false},
		{shaper.Class{Burst: 2048, Size: math.MinInt}, false},
		{shaper.Class{Burst: 2048, Size: math.MaxInt}, true},
		{shaper.Class{Items: -1, Size: -1}, false},
	} {
		for at := range 8 {
			l := slices.Repeat([]shaper.Class{right}, 8)
			l[at] = c.class
			s, e := shaper.New(3, l...)
			if c.may != (s != nil) || c.may != (e == api.OK) || !c.may && e != api.ErrArg {
				t.Errorf("New with %v in place %d: %v, %v", c.class, at, s, e)
			}
		}
	}
	if s, e := shaper.New(0, nil...); s != nil || e != api.ErrArg {
		t.Errorf("New of nothing: %v, %v", s, e)
	}
}

// TestNewIsFullAndEmpty: the buckets of a new shaper are full at its tick, and no
// fuller; its queues are empty.
func TestNewIsFullAndEmpty(t *testing.T) {
	for _, tick := range []uint64{0, 1, 5, 1 << 63, most - 1, most} {
		for _, burst := range []uint64{2048, 2049, 5000} {
			s, w := made(t, tick, class(0, burst), class(1, burst))
			same(t, s, w)
			if s.Tick() != tick || len(s.Queued(0)) != 0 || s.Stat(0) != (shaper.Stat{}) {
				t.Errorf("New(%d): tick %d", tick, s.Tick())
			}
			for left := burst + 1; left > 0; {
				size := min(left, 2048)
				offer(t, s, w, 1, item(left, int(size)))
				offer(t, s, w, 0, item(left, int(size)))
				left -= size
			}
			release(t, s, w, tick)
			if len(s.Queued(0)) != 1 || len(s.Queued(1)) != 1 {
				t.Errorf("of %d and a burst of %d, %d and %d wait", burst+1, burst, len(s.Queued(0)), len(s.Queued(1)))
			}
		}
	}
}

// TestOffersThatAreRefused: ErrArg comes ahead of ErrQueue, and counts nothing.
func TestOffersThatAreRefused(t *testing.T) {
	s, w := made(t, 3, shaper.Class{Burst: 2048}, shaper.Class{Burst: 2048, Items: 2, Size: 3000})
	classes := []int{math.MinInt, -1, 0, 1, 2, 8, math.MaxInt}
	sizes := []int{math.MinInt, -2049, -1, 0, 1, 2047, 2048, 2049, 3000, math.MaxInt}
	for round := range 3 {
		for _, i := range classes {
			for _, size := range sizes {
				offer(t, s, w, i, item(uint64(round), size))
				same(t, s, w)
			}
		}
		release(t, s, w, uint64(3*round))
	}
	if n := s.Stat(0); n != (shaper.Stat{Offered: 12, Dropped: 12}) {
		t.Errorf("Stat of a queue of nothing: %v", n)
	}
}

// TestBothBoundsOfQueues: a class's queue has its own bounds, of items and of
// size.
func TestBothBoundsOfQueues(t *testing.T) {
	s, w := made(t, 0, shaper.Class{Burst: 2048, Items: 3, Size: 10}, shaper.Class{Burst: 2048, Items: 1, Size: 5000})
	for no, c := range []struct {
		class, size int
		want        api.Errno
	}{
		{0, 6, api.OK}, {0, 5, api.ErrQueue}, {0, 4, api.OK}, {0, 1, api.ErrQueue}, {0, 0, api.OK}, {0, 0, api.ErrQueue},
		{1, 2048, api.OK}, {1, 0, api.ErrQueue}, {1, 2049, api.ErrArg},
	} {
		if e := s.Offer(c.class, item(uint64(no), c.size)); e != c.want {
			t.Errorf("Offer %d: %v, not %v", no, e, c.want)
		}
		w.offer(c.class, item(uint64(no), c.size))
	}
	same(t, s, w)
	if s.Stat(0) != (shaper.Stat{Offered: 6, Dropped: 3}) || s.Stat(1) != (shaper.Stat{Offered: 2, Dropped: 1}) {
		t.Errorf("Stat: %v, %v", s.Stat(0), s.Stat(1))
	}
	release(t, s, w, 0)
	if s.Stat(0) != (shaper.Stat{Offered: 6, Dropped: 3, Out: 3, Bytes: 10}) || s.Stat(1) != (shaper.Stat{Offered: 2, Dropped: 1, Out: 1, Bytes: 2048}) {
		t.Errorf("Stat: %v, %v", s.Stat(0), s.Stat(1))
	}
}

// TestLeastClassFirst: at one tick all that is covered of a class goes out ahead
// of greater ones, and at each tick anew.
func TestLeastClassFirst(t *testing.T) {
	s, w := made(t, 0, class(1, 2048), class(3, 2048), class(2, 2048))
	for i := range 3 {
		offer(t, s, w, i, item(uint64(i), 2048))
	}
	release(t, s, w, 0)
	for no := range uint64(6) {
		for i := 2; i >= 0; i-- {
			offer(t, s, w, i, item(10*no+uint64(i), 2))
		}
	}
	if l := release(t, s, w, 0); len(l) != 0 {
		t.Errorf("%v went out without tokens", l)
	}
	var row []int
	for _, o := range release(t, s, w, 4) {
		row = append(row, int(o.At)*10+o.Class)
	}
	// Class 0 has an item each two ticks, class 1 three, class 2 one each tick.
	if !slices.Equal(row, []int{11, 12, 20, 21, 21, 22, 31, 32, 40, 41, 41, 42}) {
		t.Errorf("at ticks, of classes: %v", row)
	}
}

// TestHeadsWait: what could be covered behind a head that is not waits with it,
// and keeps nothing of other classes back.
func TestHeadsWait(t *testing.T) {
	s, w := made(t, 7, class(10, 2048), class(0, 2048))
	for no, size := range []int{2048, 100, 1, 0} {
		offer(t, s, w, 0, item(uint64(no), size))
	}
	offer(t, s, w, 1, item(9, 5))
	if l := release(t, s, w, 7); len(l) != 2 || l[1].Class != 1 {
		t.Errorf("at 7: %v", l)
	}
	if l := release(t, s, w, 16); len(l) != 0 {
		t.Errorf("up to 16: %v", l)
	}
	// At 17 100 tokens are there, at 18 10 more.
	if l := release(t, s, w, 30); len(l) != 3 || l[0].At != 17 || l[1].At != 18 || l[2].At != 18 {
		t.Errorf("up to 30: %v", l)
	}
}

// TestSizeOfNothing: no tokens cover an item of the size 0, at each tick.
func TestSizeOfNothing(t *testing.T) {
	s, w := made(t, most, class(0, 2048))
	offer(t, s, w, 0, item(1, 2048))
	release(t, s, w, 0)
	offer(t, s, w, 0, item(2, 0))
	offer(t, s, w, 0, item(3, 1))
	if at, ok := s.Next(); at != most || !ok {
		t.Errorf("Next(): %d, %v", at, ok)
	}
	if l := release(t, s, w, most); len(l) != 1 || l[0].Item.No != 2 || l[0].At != most {
		t.Errorf("%v", l)
	}
	if at, ok := s.Next(); at != 0 || ok {
		t.Errorf("Next(): %d, %v", at, ok)
	}
}

// TestTicksAheadCountAsItsOwn: what is covered goes out at its own tick, and that
// stays.
func TestTicksAheadCountAsItsOwn(t *testing.T) {
	for _, tick := range []uint64{0, 4, 9} {
		s, w := made(t, 2, class(5, 2048))
		release(t, s, w, 10)
		offer(t, s, w, 0, item(1, 2048))
		offer(t, s, w, 0, item(2, 5))
		if l := release(t, s, w, tick); len(l) != 1 || l[0].At != 10 || s.Tick() != 10 {
			t.Errorf("Release(%d) at 10: %v, and the tick is %d", tick, l, s.Tick())
		}
		if l := release(t, s, w, tick); len(l) != 0 {
			t.Errorf("once more: %v", l)
		}
		if at, ok := s.Next(); at != 11 || !ok {
			t.Errorf("Next(): %d, %v", at, ok)
		}
	}
}

// TestIdleTicks: an item that comes late goes out at the shaper's tick, not at one
// at which its bucket had the tokens.
func TestIdleTicks(t *testing.T) {
	s, w := made(t, 0, class(1, 2048), class(0, 2048))
	offer(t, s, w, 0, item(1, 2048))
	release(t, s, w, 0)
	release(t, s, w, 500)
	offer(t, s, w, 0, item(2, 100))
	offer(t, s, w, 1, item(3, 100))
	if at, ok := s.Next(); at != 500 || !ok {
		t.Errorf("Next(): %d, %v", at, ok)
	}
	if l := release(t, s, w, 600); len(l) != 2 || l[0].At != 500 || l[0].Class != 0 || l[1].At != 500 {
		t.Errorf("%v", l)
	}
}

// TestFarTicks: numbers about their greatest one neither wrap nor last.
func TestFarTicks(t *testing.T) {
	s, w := made(t, most-3, class(1, 2048), class(0, 2048), class(most, most))
	for i := range 3 {
		offer(t, s, w, i, item(1, 2048))
		offer(t, s, w, i, item(2, 3))
		offer(t, s, w, i, item(3, 1))
	}
	release(t, s, w, most-3)
	if at, ok := s.Next(); at != most || !ok {
		t.Errorf("Next(): %d, %v", at, ok)
	}
	if l := release(t, s, w, most); len(l) != 1 || l[0].At != most {
		t.Errorf("%v", l)
	}
	if at, ok := s.Next(); at != 0 || ok || len(s.Release(most)) != 0 {
		t.Errorf("Next(): %d, %v", at, ok)
	}

	s, _ = made(t, 0, class(1, 2048), class(0, 2048), class(1<<62, most))
	for i := range 3 {
		for _, size := range []int{2048, 2048, 1} {
			if e := s.Offer(i, fifo.Item{Size: size}); e != api.OK {
				t.Fatal(e)
			}
		}
	}
	full := fifo.Item{Size: 2048}
	sameOuts(t, s.Release(most), []shaper.Out{
		{At: 0, Class: 0, Item: full}, {At: 0, Class: 1, Item: full}, {At: 0, Class: 2, Item: full}, {At: 0, Class: 2, Item: full}, {At: 0, Class: 2, Item: fifo.Item{Size: 1}},
		{At: 2048, Class: 0, Item: full}, {At: 2049, Class: 0, Item: fifo.Item{Size: 1}},
	})
	if at, ok := s.Next(); s.Tick() != most || at != 0 || ok || len(s.Queued(1)) != 2 {
		t.Errorf("tick %d, Next() %d, %v", s.Tick(), at, ok)
	}
}

// TestAllShortRuns does each run of five calls, of nine kinds, on two classes.
func TestAllShortRuns(t *testing.T) {
	const calls, steps = 9, 5
	runs := 1
	for range steps {
		runs *= calls
	}
	for run := range runs {
		s, w := made(t, 10, shaper.Class{Rate: 1000, Burst: 2048, Items: 2, Size: 4000}, shaper.Class{Rate: 700, Burst: 2100, Items: 2, Size: 4096})
		for step := range steps {
			call(t, s, w, run%calls, uint64(step))
			run /= calls
		}
	}
}

// call does one of nine calls.
func call(t *testing.T, s *shaper.Shaper, w *told, kind int, no uint64) {
	t.Helper()
	switch kind {
	case 0, 1, 2, 3:
		offer(t, s, w, kind%2, item(no, []int{2048, 900}[kind/2]))
	case 4:
		offer(t, s, w, 2, item(no, 1))
	case 5, 6, 7:
		release(t, s, w, w.tick+uint64([]int{-1, 0, 2}[kind-5]))
	case 8:
		if n, want := s.Clear(), w.clear(); n != want {
			t.Fatalf("Clear(): %d, not %d", n, want)
		}
	}
	same(t, s, w)
}

func TestLongRuns(t *testing.T) {
	r := rand.New(rand.NewSource(12))
	for range 400 {
		tick := []uint64{0, 1, uint64(r.Intn(1000)), 1 << 63, most - uint64(r.Intn(900))}[r.Intn(5)]
		s, w := made(t, tick, someClasses(r)...)
		greatest := []int{3, 300, 2049}[r.Intn(3)]
		for no := range uint64(80) {
			switch n := r.Intn(100); {
			case n < 2:
				call(t, s, w, 8, no)
			case n < 75:
				offer(t, s, w, r.Intn(len(w.classes)+1), item(no, r.Intn(greatest+1)))
			default:
				to := w.tick + min(uint64(r.Intn(30)), most-w.tick)
				if r.Intn(6) == 0 {
					to = min(uint64(r.Intn(1000)), w.tick)
				}
				release(t, s, w, to)
			}
		}
		same(t, s, w)
	}
}

// someClasses are one to eight, whose rates are small beside the sizes, or not.
func someClasses(r *rand.Rand) []shaper.Class {
	var l []shaper.Class
	for range 1 + r.Intn(8) {
		l = append(l, shaper.Class{
			Rate:  []uint64{0, 1, uint64(r.Intn(50)), uint64(r.Intn(3000)), most}[r.Intn(5)],
			Burst: []uint64{2048, 2048 + uint64(r.Intn(3000)), most}[r.Intn(3)],
			Items: r.Intn(20),
			Size:  r.Intn(20000),
		})
	}
	return l
}

// TestWhatFollows holds P12.5 by what is told alone, without another shaper:
// of each class its sum between all ticks, its order, and what waits.
func TestWhatFollows(t *testing.T) {
	r := rand.New(rand.NewSource(13))
	for range 100 {
		l := make([]shaper.Class, 3)
		for i := range l {
			l[i] = shaper.Class{Rate: uint64(r.Intn(400)), Burst: 2048 + uint64(r.Intn(500)), Items: 1 + r.Intn(12), Size: 2048 + r.Intn(9000)}
		}
		s, _ := made(t, 0, l...)
		offered := make([][]uint64, len(l))
		var outs []shaper.Out
		no := uint64(0)
		for tick := uint64(0); tick < 60; tick += uint64(r.Intn(4)) {
			for range r.Intn(8) {
				i, size := r.Intn(len(l)), r.Intn(700)
				if dropsRight(t, s, l, i, item(no, size)) {
					offered[i] = append(offered[i], no)
				}
				no++
			}
			at, ok := s.Next()
			more := s.Release(tick)
			if (ok && at <= tick) != (len(more) > 0) || len(more) > 0 && more[0].At != at {
				t.Fatalf("Next() was %d, %v, and %v went out up to %d", at, ok, more, tick)
			}
			if at, ok := s.Next(); ok && at <= s.Tick() {
				t.Fatalf("a head is covered behind Release(%d)", tick)
			}
			outs = append(outs, more...)
		}
		for i, c := range l {
			holdsOrder(t, outs, i, offered[i], s.Queued(i))
			holdsRate(t, outs, i, c)
		}
	}
}

// dropsRight offers an item, and holds what is answered against the room that was
// there; it tells whether it was not a drop.
func dropsRight(t *testing.T, s *shaper.Shaper, l []shaper.Class, i int, x fifo.Item) bool {
	t.Helper()
	sum := x.Size
	row := s.Queued(i)
	for _, y := range row {
		sum += y.Size
	}
	e := s.Offer(i, x)
	if room := len(row) < l[i].Items && sum <= l[i].Size; room != (e == api.OK) || !room && e != api.ErrQueue {
		t.Fatalf("Offer of the size %d to %d items: %v", x.Size, len(row), e)
	}
	return e == api.OK
}

// holdsOrder: what went out of a class, and then what waits, is what was offered.
func holdsOrder(t *testing.T, outs []shaper.Out, class int, offered []uint64, queued []fifo.Item) {
	t.Helper()
	var row []uint64
	for _, o := range outs {
		if o.Class == class {
			row = append(row, o.Item.No)
		}
	}
	for _, x := range queued {
		row = append(row, x.No)
	}
	if !slices.Equal(row, offered) {
		t.Fatalf("class %d: %v of %v", class, row, offered)
	}
}

// holdsRate: from each tick to each other at most the burst goes out, and the rate
// for each tick between.
func holdsRate(t *testing.T, outs []shaper.Out, class int, c shaper.Class) {
	t.Helper()
	for i, first := range outs {
		sum := uint64(0)
		for _, o := range outs[i:] {
			if o.At < first.At {
				t.Fatalf("at %d behind %d", o.At, first.At)
			}
			if o.Class == class {
				sum += uint64(o.Item.Size)
			}
			if sum > c.Burst+c.Rate*(o.At-first.At) {
				t.Fatalf("class %d: %d from %d to %d", class, sum, first.At, o.At)
			}
		}
	}
}

// TestClearKeepsBuckets: what is cleared takes no tokens, gives none back, and
// stays counted.
func TestClearKeepsBuckets(t *testing.T) {
	s, w := made(t, 0, class(0, 2048), class(1, 2048), shaper.Class{Burst: 2048})
	offer(t, s, w, 2, item(0, 0))
	for no := range uint64(3) {
		offer(t, s, w, 0, item(no, 1000))
		offer(t, s, w, 1, item(no, 2000))
	}
	release(t, s, w, 0)
	if n, want := s.Clear(), w.clear(); n != want || n != 3 {
		t.Errorf("Clear(): %d, not %d", n, want)
	}
	same(t, s, w)
	if n := s.Clear(); n != 0 {
		t.Errorf("Clear() once more: %d", n)
	}
	offer(t, s, w, 0, item(7, 49))
	offer(t, s, w, 0, item(8, 48))
	offer(t, s, w, 1, item(9, 48))
	if l := release(t, s, w, 0); len(l) != 1 || l[0].Class != 1 {
		t.Errorf("%v", l)
	}
	if s.Stat(0) != (shaper.Stat{Offered: 5, Out: 2, Bytes: 2000}) || s.Stat(2) != (shaper.Stat{Offered: 1, Dropped: 1}) {
		t.Errorf("Stat: %v, %v", s.Stat(0), s.Stat(2))
	}
}

// TestNoSuchClass: of a class that there is none of, nothing is told.
func TestNoSuchClass(t *testing.T) {
	s, w := made(t, 0, class(0, 2048), class(0, 2048))
	offer(t, s, w, 0, item(1, 2048))
	offer(t, s, w, 1, item(2, 2048))
	for _, i := range []int{math.MinInt, -1, 2, 8, math.MaxInt} {
		if s.Stat(i) != (shaper.Stat{}) || len(s.Queued(i)) != 0 {
			t.Errorf("class %d: %v, %v", i, s.Stat(i), s.Queued(i))
		}
	}
}

// TestWhatIsHandedIn holds P12.4: it is only read, what lies behind a length is
// not touched, and nothing is shared.
func TestWhatIsHandedIn(t *testing.T) {
	classes := []shaper.Class{class(1, 2048), class(2, 4000), class(3, 5000)}
	s, e := shaper.New(1, classes[:2]...)
	if e != api.OK {
		t.Fatal(e)
	}
	if !slices.Equal(classes, []shaper.Class{class(1, 2048), class(2, 4000), class(3, 5000)}) {
		t.Errorf("the classes are %v", classes)
	}
	clear(classes)
	row := []byte{1, 2, 3, 4, 5, 6}
	for no := range uint64(4) {
		if e := s.Offer(1, fifo.Item{No: no, Size: 1000, Data: row[1:3]}); e != api.OK {
			t.Fatal(e)
		}
	}
	row[1] = 9
	queued, out := s.Queued(1), s.Release(1)
	for _, o := range out {
		_ = append(o.Item.Data, 50, 51)
	}
	if len(queued) != 4 || len(out) != 4 || !slices.Equal(row, []byte{1, 9, 3, 4, 5, 6}) {
		t.Errorf("%v, %v, %v", queued, out, row)
	}
	for i := range 4 {
		for _, x := range []fifo.Item{queued[i], out[i].Item} {
			if x.No != uint64(i) || !slices.Equal(x.Data, []byte{2, 3}) {
				t.Errorf("item %d: %v", i, x)
			}
			spoil(x)
		}
	}
}

// TestTwoShapers: what is done to one changes nothing of another.
func TestTwoShapers(t *testing.T) {
	l := []shaper.Class{class(1, 2048), class(7, 3000)}
	a, v := made(t, 0, l...)
	b, w := made(t, 0, l...)
	for no := range uint64(6) {
		offer(t, a, v, int(no%2), item(no, 900))
		offer(t, b, w, 0, item(no, 600))
		release(t, a, v, 3*no)
		same(t, b, w)
	}
	release(t, b, w, 20)
	same(t, a, v)
}

// TestMostItems: as many as may wait go out at once, up to the last tick.
func TestMostItems(t *testing.T) {
	l := slices.Repeat([]shaper.Class{{Rate: 1, Burst: 2048, Items: mostItems, Size: math.MaxInt}}, 8)
	s, _ := made(t, 0, l...)
	for no := range uint64(mostItems) {
		for i := range l {
			if e := s.Offer(i, item(no, 1)); e != api.OK {
				t.Fatal(e)
			}
		}
	}
	if e := s.Offer(7, item(0, 0)); e != api.ErrQueue {
		t.Errorf("Offer to a full queue: %v", e)
	}
	outs := s.Release(most)
	if len(outs) != 8*mostItems {
		t.Fatalf("%d went out", len(outs))
	}
	for i, o := range outs {
		// 2048 of each class at the first tick, class by class; then one of each.
		at, class, no := uint64(0), i/2048, uint64(i%2048)
		if i >= 8*2048 {
			no, class = uint64(i/8), i%8
			at = no - 2047
		}
		if o.At != at || o.Class != class || !equal(o.Item, item(no, 1)) {
			t.Fatalf("the one in place %d: %v", i, o)
		}
	}
}

func TestNoShaper(t *testing.T) {
	var s *shaper.Shaper
	for _, class := range []int{-1, 0, 9} {
		for _, size := range []int{-1, 0, 2049} {
			if e := s.Offer(class, fifo.Item{Size: size}); e != api.ErrNil {
				t.Errorf("Offer(%d, size %d): %v", class, size, e)
			}
		}
		if s.Stat(class) != (shaper.Stat{}) || len(s.Queued(class)) != 0 {
			t.Error("a nil shaper has a class")
		}
	}
	if at, ok := s.Next(); at != 0 || ok {
		t.Errorf("Next(): %d, %v", at, ok)
	}
	if len(s.Release(5)) != 0 || len(s.Release(most)) != 0 || s.Tick() != 0 || s.Clear() != 0 {
		t.Error("a nil shaper answers something")
	}
}

func TestShaperMadeByHand(t *testing.T) {
	s, w := new(shaper.Shaper), new(told)
	offer(t, s, w, 0, item(1, 1))
	same(t, s, w)
	release(t, s, w, 9)
	if s.Tick() != 9 || s.Clear() != 0 || s.Stat(0) != (shaper.Stat{}) || len(s.Queued(0)) != 0 {
		t.Error("a shaper without classes has one")
	}
}
