package bucket_test

import (
	"math"
	"math/big"
	"math/rand"
	"testing"

	"octroi/bucket"
)

// most is the greatest number there is.
const most = math.MaxUint64

// told is a bucket as the section 'Words' tells it, whose numbers have no end.
type told struct {
	rate, burst, tick, tokens *big.Int
}

func number(n uint64) *big.Int { return new(big.Int).SetUint64(n) }

// newTold is a full one.
func newTold(rate, burst, tick uint64) *told {
	return &told{number(rate), number(burst), number(tick), number(burst)}
}

// capped is a, but no more than b.
func capped(a, b *big.Int) *big.Int {
	if a.Cmp(b) > 0 {
		return new(big.Int).Set(b)
	}
	return a
}

// levelAt is how many tokens it would have at a tick, from its own on.
func (b *told) levelAt(tick *big.Int) *big.Int {
	between := new(big.Int).Sub(tick, b.tick)
	come := new(big.Int).Mul(b.rate, between)
	return capped(come.Add(come, b.tokens), b.burst)
}

func (b *told) level(tick uint64) uint64 {
	if t := number(tick); t.Cmp(b.tick) > 0 {
		b.tokens, b.tick = b.levelAt(t), t
	}
	return b.tokens.Uint64()
}

func (b *told) take(tick, n uint64) bool {
	b.level(tick)
	if b.tokens.Cmp(number(n)) < 0 {
		return false
	}
	b.tokens = new(big.Int).Sub(b.tokens, number(n))
	return true
}

// when is the first tick with n tokens, found by halves: the level never falls
// from tick to tick.
func (b *told) when(n uint64) (uint64, bool) {
	lo, hi := new(big.Int).Set(b.tick), number(most)
	if b.levelAt(hi).Cmp(number(n)) < 0 {
		return 0, false
	}
	for lo.Cmp(hi) < 0 {
		mid := new(big.Int).Add(lo, hi)
		mid.Rsh(mid, 1)
		if b.levelAt(mid).Cmp(number(n)) < 0 {
			lo = mid.Add(mid, big.NewInt(1))
		} else {
			hi = mid
		}
	}
	return lo.Uint64(), true
}

// same holds what a bucket answers against what is told, for these numbers of
// tokens.
func same(t *testing.T, b *bucket.Bucket, w *told, ns ...uint64) {
	t.Helper()
	if b.Tick() != w.tick.Uint64() {
		t.Fatalf("Tick(): %d, not %d", b.Tick(), w.tick)
	}
	for _, n := range ns {
		at, ok := b.When(n)
		wantAt, want := w.when(n)
		if at != wantAt || ok != want {
			t.Fatalf("When(%d) of rate %d, burst %d, tick %d, %d tokens: %d, %v, not %d, %v", n, w.rate, w.burst, w.tick, w.tokens, at, ok, wantAt, want)
		}
	}
	if b.Tick() != w.tick.Uint64() {
		t.Fatalf("When moved the tick")
	}
	if l := b.Level(b.Tick()); l != w.tokens.Uint64() {
		t.Fatalf("Level at its own tick: %d, not %d", l, w.tokens)
	}
}

func TestExamples(t *testing.T) {
	b := bucket.New(3, 10, 5)
	if !b.Take(5, 8) {
		t.Error("Take(5, 8) is false")
	}
	if l := b.Level(6); l != 5 {
		t.Errorf("Level(6): %d", l)
	}
	if b.Take(6, 6) {
		t.Error("Take(6, 6) is true")
	}
	if at, ok := b.When(6); at != 7 || !ok {
		t.Errorf("When(6): %d, %v", at, ok)
	}
	if !b.Take(7, 6) {
		t.Error("Take(7, 6) is false")
	}
	if l := b.Level(4); l != 2 {
		t.Errorf("Level(4): %d", l)
	}
	if l := b.Level(100); l != 10 {
		t.Errorf("Level(100): %d", l)
	}
}

func TestNewIsFull(t *testing.T) {
	for _, rate := range edges() {
		for _, burst := range edges() {
			for _, tick := range edges() {
				b := bucket.New(rate, burst, tick)
				if b.Tick() != tick {
					t.Fatalf("New(%d, %d, %d).Tick(): %d", rate, burst, tick, b.Tick())
				}
				if l := b.Level(0); l != burst || b.Tick() != tick {
					t.Fatalf("New(%d, %d, %d).Level(0): %d, and its tick %d", rate, burst, tick, l, b.Tick())
				}
			}
		}
	}
}

// edges are numbers at the ends, and about their middle.
func edges() []uint64 {
	return []uint64{0, 1, 2, 3, 7, 1<<32 - 1, 1 << 32, 1<<63 - 1, 1 << 63, 1<<63 + 1, most - 2, most - 1, most}
}

func TestOneFillAtTheEdges(t *testing.T) {
	for _, rate := range edges() {
		for _, burst := range edges() {
			for _, taken := range edges() {
				for _, tick := range edges() {
					oneFill(t, rate, burst, taken, tick)
				}
			}
		}
	}
}

// oneFill takes from a full bucket, and fills it up to each edge.
func oneFill(t *testing.T, rate, burst, taken, tick uint64) {
	for _, to := range edges() {
		b, w := bucket.New(rate, burst, tick), newTold(rate, burst, tick)
		if ok, want := b.Take(tick, taken), w.take(tick, taken); ok != want {
			t.Fatalf("Take of %d of a full burst of %d: %v", taken, burst, ok)
		}
		if l, want := b.Level(to), w.level(to); l != want {
			t.Fatalf("rate %d, burst %d, %d taken at %d: Level(%d) is %d, not %d", rate, burst, taken, tick, to, l, want)
		}
		same(t, b, w)
	}
}

func TestWhenAtTheEdges(t *testing.T) {
	for _, rate := range edges() {
		for _, burst := range edges() {
			for _, taken := range edges() {
				for _, tick := range []uint64{0, 5, 1 << 63, most - 3, most - 1, most} {
					b, w := bucket.New(rate, burst, tick), newTold(rate, burst, tick)
					b.Take(tick, taken)
					w.take(tick, taken)
					same(t, b, w, edges()...)
				}
			}
		}
	}
}

func TestManyCalls(t *testing.T) {
	r := rand.New(rand.NewSource(10))
	for range 300 {
		scale := []uint64{4, 30, 1 << 20, 1 << 40, most}[r.Intn(5)]
		pick := func() uint64 { return r.Uint64() % scale }
		rate, burst, tick := pick(), pick(), pick()
		b, w := bucket.New(rate, burst, tick), newTold(rate, burst, tick)
		for range 60 {
			at, n := b.Tick()+r.Uint64()%(scale/4+1), pick()
			if r.Intn(4) == 0 {
				at = pick() // which may lie ahead of its own tick
			}
			if r.Intn(2) == 0 {
				if ok, want := b.Take(at, n), w.take(at, n); ok != want {
					t.Fatalf("Take(%d, %d): %v, not %v", at, n, ok, want)
				}
			} else if l, want := b.Level(at), w.level(at); l != want {
				t.Fatalf("Level(%d): %d, not %d", at, l, want)
			}
			same(t, b, w, 0, 1, pick(), burst, burst-1, burst+1)
		}
	}
}

func TestTakeThatIsRefusedFillsAndTakesNothing(t *testing.T) {
	b := bucket.New(2, 9, 10)
	b.Take(10, 9)
	if b.Take(12, 5) {
		t.Fatal("5 were taken of 4")
	}
	if b.Tick() != 12 || b.Level(0) != 4 {
		t.Errorf("tick %d, %d tokens", b.Tick(), b.Level(0))
	}
	if !b.Take(12, 4) || b.Level(12) != 0 {
		t.Error("4 were not taken of 4")
	}
}

func TestTicksThatGoBack(t *testing.T) {
	b := bucket.New(5, 100, 50)
	b.Take(50, 60)
	if !b.Take(3, 30) {
		t.Error("tokens are there, whatever the tick")
	}
	if b.Take(0, 11) || b.Tick() != 50 || b.Level(49) != 10 {
		t.Errorf("tick %d, %d tokens", b.Tick(), b.Level(49))
	}
	if l := b.Level(51); l != 15 {
		t.Errorf("%d tokens a tick behind", l)
	}
}

func TestWhenNeverIs(t *testing.T) {
	still := bucket.New(0, 8, 3)
	still.Take(3, 5)
	late := bucket.New(1, 8, most-2)
	late.Take(most-2, 8)
	for _, c := range []struct {
		b    *bucket.Bucket
		n    uint64
		at   uint64
		want bool
	}{
		{still, 3, 3, true}, {still, 0, 3, true}, {still, 4, 0, false}, {still, 9, 0, false},
		{late, 0, most - 2, true}, {late, 1, most - 1, true}, {late, 2, most, true}, {late, 3, 0, false}, {late, 9, 0, false},
		{bucket.New(1, 0, 4), 0, 4, true}, {bucket.New(1, 0, 4), 1, 0, false},
		{bucket.New(most, most, 4), most, 4, true},
	} {
		if at, ok := c.b.When(c.n); at != c.at || ok != c.want {
			t.Errorf("When(%d): %d, %v, not %d, %v", c.n, at, ok, c.at, c.want)
		}
	}
}

func TestCopyGoesOnByItself(t *testing.T) {
	b, w := bucket.New(3, 20, 7), newTold(3, 20, 7)
	b.Take(8, 15)
	w.take(8, 15)
	c := b.Copy()
	same(t, c, w, 0, 5, 6, 20, 21)
	c.Take(9, 6)
	same(t, b, w, 0, 5, 6, 20, 21)
	w.take(9, 6)
	same(t, c, w, 0, 5, 6, 20, 21)
	b.Level(100)
	same(t, c, w, 0, 5, 6, 20, 21)
}

// TestTakenBetween holds what is taken from s to t against the burst and the
// rate (P10.4), for each s and t of a run in which all that is there is taken,
// by halves or wholly.
func TestTakenBetween(t *testing.T) {
	r := rand.New(rand.NewSource(11))
	for range 200 {
		rate, burst := uint64(r.Intn(12)), uint64(r.Intn(40))
		b := bucket.New(rate, burst, 0)
		taken := make([]uint64, 30)
		for tick := range taken {
			for range 3 {
				n := uint64(r.Intn(20))
				at, some := b.When(n)
				if b.Take(uint64(tick), n) {
					taken[tick] += n
				} else if later, ok := b.When(n); some != ok || ok && (later <= uint64(tick) || later != at) {
					t.Fatalf("refused at %d: When was %d, %v, and is %d, %v", tick, at, some, later, ok)
				} else if c := b.Copy(); ok && (c.Copy().Take(later-1, n) || !c.Take(later, n)) {
					t.Fatalf("When(%d) is %d, but the first Take is not there", n, later)
				}
				if b.Level(uint64(tick)) > burst {
					t.Fatalf("more tokens than the burst")
				}
			}
		}
		for s := range taken {
			sum := uint64(0)
			for to := s; to < len(taken); to++ {
				if sum += taken[to]; sum > burst+rate*uint64(to-s) {
					t.Fatalf("rate %d, burst %d: %d taken from %d to %d", rate, burst, sum, s, to)
				}
			}
		}
	}
}

func TestNoBucket(t *testing.T) {
	var b *bucket.Bucket
	if b.Level(5) != 0 || b.Take(5, 0) || b.Take(0, 1) || b.Copy() != nil || b.Tick() != 0 {
		t.Error("a nil bucket answers something")
	}
	if at, ok := b.When(0); at != 0 || ok {
		t.Errorf("When of a nil bucket: %d, %v", at, ok)
	}
}

func TestBucketMadeByHand(t *testing.T) {
	var b bucket.Bucket
	w := newTold(0, 0, 0)
	same(t, &b, w, 0, 1, most)
	if b.Take(9, 1) || !b.Take(9, 0) || b.Tick() != 9 {
		t.Error("a bucket that holds nothing gives something, or keeps no tick")
	}
}
