package fifo_test

import (
	"bytes"
	"math"
	"math/rand"
	"testing"

	"octroi/api"
	"octroi/fifo"
)

// mostItems is the greatest bound of items that may be.
const mostItems = 65536

// told is a queue as the section 'Words' tells it: a row of items, each one with
// data that nobody else has. Sizes are added as numbers that two ints can't wrap.
type told struct {
	items, size int
	row         []fifo.Item
	drops       uint64
}

func (w *told) sum() uint64 {
	n := uint64(0)
	for _, x := range w.row {
		n += uint64(x.Size)
	}
	return n
}

func (w *told) room(size int) bool {
	return size >= 0 && len(w.row)+1 <= w.items && w.sum()+uint64(size) <= uint64(w.size)
}

func (w *told) push(x fifo.Item) api.Errno {
	if x.Size < 0 {
		return api.ErrArg
	}
	if !w.room(x.Size) {
		w.drops++
		return api.ErrQueue
	}
	x.Data = append([]byte(nil), x.Data...)
	w.row = append(w.row, x)
	return api.OK
}

func (w *told) head() (fifo.Item, bool) {
	if len(w.row) == 0 {
		return fifo.Item{}, false
	}
	return w.row[0], true
}

func (w *told) pop() (fifo.Item, bool) {
	x, ok := w.head()
	if ok {
		w.row = w.row[1:]
	}
	return x, ok
}

func (w *told) clear() int {
	n := len(w.row)
	w.row = nil
	return n
}

// equal tells whether two items are the same: no data and empty data are.
func equal(a, b fifo.Item) bool {
	return a.No == b.No && a.Size == b.Size && bytes.Equal(a.Data, b.Data)
}

// spoil changes all of an item's data, and what lies behind its length.
func spoil(x fifo.Item) {
	l := x.Data[:cap(x.Data)]
	for i := range l {
		l[i] ^= 0xFF
	}
}

// made is a queue that may be.
func made(t *testing.T, items, size int) *fifo.Queue {
	t.Helper()
	q, e := fifo.New(items, size)
	if q == nil || e != api.OK {
		t.Fatalf("New(%d, %d): %v, %v", items, size, q, e)
	}
	return q
}

// same holds what a queue tells against what is told of it, for these sizes. It
// spoils what is answered, which must change nothing.
func same(t *testing.T, q *fifo.Queue, w *told, sizes ...int) {
	t.Helper()
	if q.Len() != len(w.row) || uint64(q.Size()) != w.sum() || q.Drops() != w.drops {
		t.Fatalf("Len, Size, Drops: %d, %d, %d, not %d, %d, %d", q.Len(), q.Size(), q.Drops(), len(w.row), w.sum(), w.drops)
	}
	for _, n := range sizes {
		if ok := q.Room(n); ok != w.room(n) {
			t.Fatalf("Room(%d) of %d and %d, with %d and %d: %v", n, w.items, w.size, len(w.row), w.sum(), ok)
		}
	}
	for range 2 {
		sameItems(t, q, w)
	}
}

func sameItems(t *testing.T, q *fifo.Queue, w *told) {
	t.Helper()
	x, ok := q.Head()
	want, wantOk := w.head()
	if ok != wantOk || !equal(x, want) {
		t.Fatalf("Head(): %v, %v, not %v, %v", x, ok, want, wantOk)
	}
	l := q.All()
	if len(l) != len(w.row) {
		t.Fatalf("All() has %d items, not %d", len(l), len(w.row))
	}
	spoil(x)
	for i := range l {
		// If two shared memory, the one that was spoilt first would be told later.
		if !equal(l[i], w.row[i]) {
			t.Fatalf("All()[%d]: %v, not %v", i, l[i], w.row[i])
		}
		spoil(l[i])
	}
}

// push pushes into both, holds the answers against each other, and spoils what
// was handed in.
func push(t *testing.T, q *fifo.Queue, w *told, x fifo.Item) {
	t.Helper()
	if e, want := q.Push(x), w.push(x); e != want {
		t.Fatalf("Push of the size %d: %v, not %v", x.Size, e, want)
	}
	spoil(x)
}

// pop pops from both, and spoils what is answered.
func pop(t *testing.T, q *fifo.Queue, w *told) {
	t.Helper()
	x, ok := q.Pop()
	if want, wantOk := w.pop(); ok != wantOk || !equal(x, want) {
		t.Fatalf("Pop(): %v, %v, not %v, %v", x, ok, want, wantOk)
	}
	spoil(x)
}

// item is one with data that lie in a longer row.
func item(no uint64, size int) fifo.Item {
	row := []byte{byte(no), byte(no >> 8), byte(size), 7, 8, 9}
	return fifo.Item{No: no, Size: size, Data: row[:no%5]}
}

func TestExamples(t *testing.T) {
	q := made(t, 2, 10)
	for i, c := range []struct {
		size int
		want api.Errno
	}{{6, api.OK}, {5, api.ErrQueue}, {4, api.OK}, {0, api.ErrQueue}} {
		if e := q.Push(fifo.Item{No: uint64(i), Size: c.size}); e != c.want {
			t.Errorf("Push %d: %v, not %v", c.size, e, c.want)
		}
	}
	if q.Drops() != 2 || q.Size() != 10 {
		t.Errorf("Drops %d, Size %d", q.Drops(), q.Size())
	}
	if x, ok := q.Pop(); !ok || x.No != 0 || x.Size != 6 {
		t.Errorf("Pop: %v, %v", x, ok)
	}
	if q.Len() != 1 {
		t.Errorf("Len %d", q.Len())
	}
}

func TestBoundsThatMayBe(t *testing.T) {
	for _, items := range []int{math.MinInt, -1, 0, 1, 2, mostItems - 1, mostItems, mostItems + 1, math.MaxInt} {
		for _, size := range []int{math.MinInt, -1, 0, 1, mostItems + 1, math.MaxInt} {
			if items >= 0 && items <= mostItems && size >= 0 {
				same(t, made(t, items, size), &told{items: items, size: size}, math.MinInt, -1, 0, 1, 2, size, math.MaxInt)
			} else if q, e := fifo.New(items, size); q != nil || e != api.ErrArg {
				t.Errorf("New(%d, %d): %v, %v", items, size, q, e)
			}
		}
	}
}

func TestSizesAtTheEdges(t *testing.T) {
	sizes := []int{math.MinInt, -1, 0, 1, 5, math.MaxInt - 1, math.MaxInt}
	for _, bound := range []int{0, 1, 5, 6, math.MaxInt - 1, math.MaxInt} {
		for _, first := range sizes {
			for _, second := range sizes {
				q, w := made(t, 3, bound), &told{items: 3, size: bound}
				for i, size := range []int{first, second, 0, 0, first} {
					push(t, q, w, item(uint64(i), size))
					same(t, q, w, append(sizes, bound-first, bound-second)...)
				}
			}
		}
	}
}

// TestAllShortRuns does each run of six calls on queues of few items: those of
// P11.2 and P11.3, at all places of a ring.
func TestAllShortRuns(t *testing.T) {
	const calls, steps = 6, 6
	runs := 1
	for range steps {
		runs *= calls
	}
	for bound := range 4 {
		for run := range runs {
			q, w := made(t, bound, 9), &told{items: bound, size: 9}
			for step := range steps {
				call(t, q, w, run%calls, uint64(step))
				run /= calls
			}
		}
	}
}

// call does one of six calls.
func call(t *testing.T, q *fifo.Queue, w *told, kind int, no uint64) {
	t.Helper()
	switch kind {
	case 0, 1, 2:
		push(t, q, w, item(no, []int{0, 4, 6}[kind]))
	case 3:
		push(t, q, w, item(no, -1))
	case 4:
		pop(t, q, w)
	case 5:
		if n, want := q.Clear(), w.clear(); n != want {
			t.Fatalf("Clear(): %d, not %d", n, want)
		}
	}
	same(t, q, w, -1, 0, 3, 4, 5, 6, 9, 10)
}

func TestLongRuns(t *testing.T) {
	r := rand.New(rand.NewSource(11))
	for range 200 {
		items, size := r.Intn(40), r.Intn(400)
		q, w := made(t, items, size), &told{items: items, size: size}
		grows := true
		for no := range uint64(300) {
			if r.Intn(40) == 0 {
				grows = !grows
			}
			switch n := r.Intn(100); {
			case n == 0:
				call(t, q, w, 5, no)
			case n < 70 == grows:
				push(t, q, w, item(no, r.Intn(30)-1))
			default:
				pop(t, q, w)
			}
			same(t, q, w, r.Intn(420)-10)
		}
	}
}

// TestMostItems fills the longest queue, wraps its ring, and empties it.
func TestMostItems(t *testing.T) {
	q := made(t, mostItems, math.MaxInt)
	next, out := uint64(0), uint64(0)
	for next < mostItems {
		if e := q.Push(item(next, 1)); e != api.OK {
			t.Fatalf("Push %d: %v", next, e)
		}
		next++
	}
	for range mostItems/2 + 1 {
		if e := q.Push(item(next, 1)); e != api.ErrQueue || q.Len() != mostItems {
			t.Fatalf("a push into a full queue: %v, Len %d", e, q.Len())
		}
		if x, ok := q.Pop(); !ok || !equal(x, item(out, 1)) {
			t.Fatalf("Pop %d: %v, %v", out, x, ok)
		}
		if e := q.Push(item(next, 1)); e != api.OK {
			t.Fatalf("Push %d: %v", next, e)
		}
		next, out = next+1, out+1
	}
	for i, x := range q.All() {
		if !equal(x, item(out+uint64(i), 1)) {
			t.Fatalf("All()[%d]: %v", i, x)
		}
	}
	if q.Drops() != mostItems/2+1 || q.Size() != mostItems {
		t.Errorf("Drops %d, Size %d", q.Drops(), q.Size())
	}
	for ; out < next; out++ {
		if x, ok := q.Pop(); !ok || !equal(x, item(out, 1)) {
			t.Fatalf("Pop %d: %v, %v", out, x, ok)
		}
	}
	if x, ok := q.Pop(); ok || !equal(x, fifo.Item{}) || q.Len() != 0 || q.Size() != 0 {
		t.Errorf("Pop of an empty queue: %v, %v", x, ok)
	}
}

// TestGrownAtEachPlace lets a queue grow whose first item stands at each place.
func TestGrownAtEachPlace(t *testing.T) {
	for full := range 20 {
		for shift := range full + 1 {
			q, w := made(t, mostItems, 1000), &told{items: mostItems, size: 1000}
			no := uint64(0)
			for range full {
				push(t, q, w, item(no, 1))
				no++
			}
			for range shift {
				pop(t, q, w)
			}
			for range full + 5 {
				push(t, q, w, item(no, 2))
				no++
				same(t, q, w, 0)
			}
			for range 2*full + 6 {
				pop(t, q, w)
			}
			same(t, q, w, 0)
		}
	}
}

// TestWhatIsHandedIn holds P11.4: it is only read, and what lies behind the
// data's length is not touched.
func TestWhatIsHandedIn(t *testing.T) {
	q := made(t, 5, 100)
	row := []byte{1, 2, 3, 4, 5, 6}
	for range 3 {
		if e := q.Push(fifo.Item{No: 9, Size: 3, Data: row[1:3]}); e != api.OK {
			t.Fatal(e)
		}
	}
	x, _ := q.Head()
	_ = append(x.Data, 50, 51, 52)
	y, _ := q.Pop()
	_ = append(y.Data, 60, 61, 62)
	for _, z := range q.All() {
		_ = append(z.Data, 70, 71, 72)
	}
	if !bytes.Equal(row, []byte{1, 2, 3, 4, 5, 6}) {
		t.Errorf("what was handed in is %v", row)
	}
	row[1] = 9
	for _, z := range append(q.All(), x, y) {
		if z.No != 9 || z.Size != 3 || !bytes.Equal(z.Data, []byte{2, 3}) {
			t.Errorf("what stands, or stood, in the queue is %v", z)
		}
	}
}

func TestDataOfNoLength(t *testing.T) {
	q := made(t, 3, 0)
	row := []byte{1, 2}
	for no, data := range [][]byte{nil, {}, row[:0]} {
		if e := q.Push(fifo.Item{No: uint64(no), Data: data}); e != api.OK {
			t.Fatal(e)
		}
	}
	for no := range uint64(3) {
		x, ok := q.Pop()
		if !ok || x.No != no || len(x.Data) != 0 {
			t.Errorf("Pop %d: %v, %v", no, x, ok)
		}
		_ = append(x.Data, 8)
	}
	if row[0] != 1 {
		t.Error("what lies behind the length was handed on")
	}
}

// TestSizeIsNotThatOfData: a size is what is handed in, whatever the data are.
func TestSizeIsNotThatOfData(t *testing.T) {
	q, w := made(t, 3, 10), &told{items: 3, size: 10}
	push(t, q, w, fifo.Item{No: 1, Size: 0, Data: make([]byte, 100)})
	push(t, q, w, fifo.Item{No: 1, Size: 10})
	same(t, q, w, 0, 1)
	push(t, q, w, fifo.Item{No: 1 << 63, Size: 1})
	push(t, q, w, fifo.Item{No: math.MaxUint64, Size: 0, Data: []byte{0}})
	same(t, q, w, 0, 1)
}

// TestWrongSizesAreNoDrops: ErrArg comes ahead of ErrQueue, and counts nothing.
func TestWrongSizesAreNoDrops(t *testing.T) {
	q := made(t, 0, 0)
	for _, size := range []int{-1, math.MinInt} {
		if e := q.Push(fifo.Item{Size: size}); e != api.ErrArg || q.Drops() != 0 || q.Room(size) {
			t.Errorf("Push of the size %d: %v, %d drops", size, e, q.Drops())
		}
	}
	if e := q.Push(fifo.Item{}); e != api.ErrQueue || q.Drops() != 1 {
		t.Errorf("Push into a queue of nothing: %v, %d drops", e, q.Drops())
	}
}

// TestDropsStay: neither Pop nor Clear makes a drop undone, and Room makes none.
func TestDropsStay(t *testing.T) {
	q := made(t, 1, 1)
	q.Push(fifo.Item{})
	q.Push(fifo.Item{})
	q.Room(0)
	q.Room(2)
	if n := q.Clear(); n != 1 || q.Drops() != 1 || q.Len() != 0 || q.Size() != 0 {
		t.Errorf("Clear: %d, %d drops", n, q.Drops())
	}
	if n := q.Clear(); n != 0 || len(q.All()) != 0 {
		t.Errorf("Clear of an empty queue: %d", n)
	}
	if e := q.Push(fifo.Item{Size: 1}); e != api.OK {
		t.Errorf("Push behind Clear: %v", e)
	}
	q.Pop()
	if q.Drops() != 1 {
		t.Errorf("%d drops behind Pop", q.Drops())
	}
}

// TestTwoQueues: what is done to one changes nothing of another.
func TestTwoQueues(t *testing.T) {
	a, b := made(t, 4, 20), made(t, 4, 20)
	v, w := &told{items: 4, size: 20}, &told{items: 4, size: 20}
	for no := range uint64(6) {
		push(t, a, v, item(no, 3))
		push(t, b, w, item(no+50, 5))
		same(t, a, v, 3)
		same(t, b, w, 5)
	}
	a.Clear()
	same(t, b, w, 5)
}

func TestNoQueue(t *testing.T) {
	var q *fifo.Queue
	for _, size := range []int{-1, 0, 1} {
		if e := q.Push(fifo.Item{Size: size}); e != api.ErrNil || q.Room(size) {
			t.Errorf("a nil queue, pushed %d: %v", size, e)
		}
	}
	x, head := q.Head()
	y, popped := q.Pop()
	if head || popped || !equal(x, fifo.Item{}) || !equal(y, fifo.Item{}) || len(q.All()) != 0 {
		t.Error("a nil queue has items")
	}
	if q.Len() != 0 || q.Size() != 0 || q.Drops() != 0 || q.Clear() != 0 {
		t.Error("a nil queue counts something")
	}
}

func TestQueueMadeByHand(t *testing.T) {
	q, w := new(fifo.Queue), new(told)
	pop(t, q, w)
	same(t, q, w, -1, 0, 1)
	push(t, q, w, fifo.Item{})
	push(t, q, w, fifo.Item{Size: -1})
	same(t, q, w, -1, 0, 1)
	if q.Clear() != 0 {
		t.Error("it had items")
	}
}
