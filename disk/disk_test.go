package disk_test

import (
	"bytes"
	"math"
	"math/rand"
	"slices"
	"testing"

	"octroi/api"
	"octroi/disk"
)

// mostBytes is the greatest size of a disk that may be.
const mostBytes = 65536

// told is a disk as the section 'Words' tells it, byte by byte: what is durable,
// and the unsynced writes, in order.
type told struct {
	durable []byte
	writes  []disk.Write
}

func newTold(size int) *told { return &told{durable: make([]byte, size)} }

// has tells whether n bytes from at on begin at a place of the disk, or at its
// end, and each one is a byte of the disk.
func (w *told) has(at, n int) bool {
	if at < 0 || at > len(w.durable) || n < 0 {
		return false
	}
	for i := range n {
		if at > len(w.durable)-1-i {
			return false
		}
	}
	return true
}

func (w *told) write(at int, b []byte) api.Errno {
	if !w.has(at, len(b)) {
		return api.ErrDisk
	}
	if len(b) > 0 {
		w.writes = append(w.writes, disk.Write{At: at, Data: append([]byte(nil), b...)})
	}
	return api.OK
}

// does tells whether a fate does a write's byte.
func does(f disk.Fate, i int) bool {
	return f.Kind == disk.Kept || f.Kind == disk.Torn && i < f.At
}

// crash does the writes' bytes that their fates do, one by one.
func (w *told) crash(fates []disk.Fate) int {
	n := len(w.writes)
	for i, x := range w.writes {
		f := disk.Fate{Kind: disk.Lost}
		if i < len(fates) {
			f = fates[i]
		}
		for j, v := range x.Data {
			if does(f, j) {
				w.durable[x.At+j] = v
			}
		}
	}
	w.writes = nil
	return n
}

// sync is a crash that keeps all.
func (w *told) sync() {
	w.crash(slices.Repeat([]disk.Fate{{Kind: disk.Kept}}, len(w.writes)))
}

// read is what the last write of a byte wrote there, if there is one.
func (w *told) read() []byte {
	b := append([]byte(nil), w.durable...)
	for i := range b {
		for _, x := range w.writes {
			if i >= x.At && i < x.At+len(x.Data) {
				b[i] = x.Data[i-x.At]
			}
		}
	}
	return b
}

// spoil changes all bytes of a list, and what lies behind its length.
func spoil(b []byte) {
	b = b[:cap(b)]
	for i := range b {
		b[i] ^= 0xFF
	}
}

// made is a disk that may be.
func made(t *testing.T, size int) *disk.Disk {
	t.Helper()
	d, e := disk.New(size)
	if d == nil || e != api.OK {
		t.Fatalf("New(%d): %v, %v", size, d, e)
	}
	return d
}

// wrote is a disk of 8 bytes as the chapter's examples have it.
func wrote(t *testing.T) *disk.Disk {
	t.Helper()
	d := made(t, 8)
	write(t, d, 0, 1, 2)
	sync(t, d)
	write(t, d, 1, 3, 4, 5)
	return d
}

func write(t *testing.T, d *disk.Disk, at int, b ...byte) {
	t.Helper()
	if e := d.Write(at, b); e != api.OK {
		t.Fatalf("Write(%d, %v): %v", at, b, e)
	}
}

func sync(t *testing.T, d *disk.Disk) {
	t.Helper()
	if e := d.Sync(); e != api.OK {
		t.Fatalf("Sync(): %v", e)
	}
}

// reads holds what is read, and what is durable, against bytes, from a place on.
func reads(t *testing.T, d *disk.Disk, at int, read, durable []byte) {
	t.Helper()
	if b, e := d.Read(at, len(read)); e != api.OK || !bytes.Equal(b, read) {
		t.Fatalf("Read(%d, %d): %v, %v, not %v", at, len(read), b, e, read)
	}
	if b, e := d.Durable(at, len(durable)); e != api.OK || !bytes.Equal(b, durable) {
		t.Fatalf("Durable(%d, %d): %v, %v, not %v", at, len(durable), b, e, durable)
	}
}

func equal(a, b disk.Write) bool {
	return a.At == b.At && bytes.Equal(a.Data, b.Data)
}

// same holds what a disk tells against what is told of it. It spoils what is
// answered, which must change nothing.
func same(t *testing.T, d *disk.Disk, w *told) {
	t.Helper()
	if d.Size() != len(w.durable) {
		t.Fatalf("Size(): %d, not %d", d.Size(), len(w.durable))
	}
	for range 2 {
		reads(t, d, 0, w.read(), w.durable)
		b, _ := d.Read(0, d.Size())
		c, _ := d.Durable(0, d.Size())
		l := d.Unsynced()
		if !slices.EqualFunc(l, w.writes, equal) {
			t.Fatalf("Unsynced(): %v, not %v", l, w.writes)
		}
		spoil(b)
		spoil(c)
		for i := range l {
			// If two shared memory, the one that was spoilt first would be told later.
			if !equal(l[i], w.writes[i]) {
				t.Fatalf("Unsynced()[%d]: %v, not %v", i, l[i], w.writes[i])
			}
			spoil(l[i].Data)
			l[i].At = -1
		}
	}
}

// put writes to both, holds the answers against each other, and spoils what was
// handed in.
func put(t *testing.T, d *disk.Disk, w *told, at int, b []byte) {
	t.Helper()
	row := append(append([]byte{7, 8}, b...), 9, 10)
	in := row[2 : 2+len(b)]
	want := w.write(at, b)
	if e := d.Write(at, in); e != want {
		t.Fatalf("Write(%d, %v) of %d bytes: %v, not %v", at, b, d.Size(), e, want)
	}
	if !bytes.Equal(in, b) || !bytes.Equal(row[2+len(b):], []byte{9, 10}) {
		t.Fatalf("Write(%d, %v) changed what was handed in: %v", at, b, row)
	}
	spoil(row)
}

// crash crashes both, and holds the answers against each other.
func crash(t *testing.T, d *disk.Disk, w *told, fates []disk.Fate) {
	t.Helper()
	handed := slices.Clone(fates)
	if n, want := d.Crash(handed...), w.crash(fates); n != want {
		t.Fatalf("Crash(%v): %d, not %d", fates, n, want)
	}
	if !slices.Equal(handed, fates) {
		t.Fatalf("Crash(%v) changed what was handed in: %v", fates, handed)
	}
}

func TestExamples(t *testing.T) {
	d := wrote(t)
	reads(t, d, 0, []byte{1, 3, 4, 5}, []byte{1, 2, 0, 0})
	if e := d.Write(7, []byte{1, 2}); e != api.ErrDisk {
		t.Errorf("Write(7, 1 2): %v", e)
	}
	if n := d.Crash(disk.Fate{Kind: disk.Torn, At: 2}); n != 1 {
		t.Errorf("Crash: %d", n)
	}
	reads(t, d, 0, []byte{1, 3, 4, 0}, []byte{1, 3, 4, 0})
	d = wrote(t)
	if n := d.Crash(); n != 1 {
		t.Errorf("Crash(): %d", n)
	}
	reads(t, d, 0, []byte{1, 2, 0, 0}, []byte{1, 2, 0, 0})
}

func TestKinds(t *testing.T) {
	if disk.Lost != 0 || disk.Kept != 1 || disk.Torn != 2 {
		t.Errorf("Lost, Kept, Torn: %d, %d, %d", disk.Lost, disk.Kept, disk.Torn)
	}
	if api.MaxDisk != mostBytes {
		t.Errorf("MaxDisk: %d", api.MaxDisk)
	}
}

func TestSizesThatMayBe(t *testing.T) {
	for _, size := range []int{0, 1, 2, 63, 64, mostBytes - 1, mostBytes} {
		d := made(t, size)
		same(t, d, newTold(size))
	}
	for _, c := range []struct {
		size int
		want api.Errno
	}{
		{-1, api.ErrArg}, {-mostBytes - 1, api.ErrArg}, {math.MinInt, api.ErrArg},
		{mostBytes + 1, api.ErrLimit}, {math.MaxInt, api.ErrLimit},
	} {
		if d, e := disk.New(c.size); d != nil || e != c.want {
			t.Errorf("New(%d): %v, %v, not %v", c.size, d, e, c.want)
		}
	}
}

// TestPlaces reads and writes at each place of small disks, at those just
// beyond, and at those far beyond.
func TestPlaces(t *testing.T) {
	far := []int{math.MinInt, math.MinInt + 1, math.MaxInt - 9, math.MaxInt - 1, math.MaxInt}
	near := []int{-9, -2, -1, 0, 1, 2, 3, 4, 5, 6, 7, 9}
	for size := range 6 {
		for _, at := range append(near, far...) {
			for _, n := range append(near, far...) {
				places(t, size, at, n)
			}
		}
	}
}

func places(t *testing.T, size, at, n int) {
	t.Helper()
	d, w := made(t, size), newTold(size)
	for i := range size {
		put(t, d, w, i, []byte{byte(10 + i)})
	}
	sync(t, d)
	w.sync()
	put(t, d, w, 0, bytes.Repeat([]byte{1}, size))
	if n >= 0 && n <= 9 {
		put(t, d, w, at, bytes.Repeat([]byte{2}, n))
	}
	same(t, d, w)
	b, read := d.Read(at, n)
	c, durable := d.Durable(at, n)
	if !w.has(at, min(n, size+1)) {
		if read != api.ErrDisk || durable != api.ErrDisk || len(b) != 0 || len(c) != 0 {
			t.Fatalf("of %d bytes %d from %d on: %v, %v, %v, %v", size, n, at, b, read, c, durable)
		}
		return
	}
	if read != api.OK || durable != api.OK || len(b) != n || len(c) != n {
		t.Fatalf("of %d bytes %d from %d on: %v, %v, %v, %v", size, n, at, b, read, c, durable)
	}
	for i := range n {
		if b[i] != w.read()[at+i] || c[i] != w.durable[at+i] {
			t.Fatalf("of %d bytes %d from %d on: %v, %v", size, n, at, b, c)
		}
	}
}

// TestAllFates crashes with each fate of each of two writes that lie over one
// another, with fewer fates than writes, and with more.
func TestAllFates(t *testing.T) {
	var kinds []disk.Fate
	for _, kind := range []int{math.MinInt, -1, disk.Lost, disk.Kept, disk.Torn, 3, math.MaxInt} {
		for _, at := range []int{math.MinInt, -1, 0, 1, 2, 3, 4, 5, math.MaxInt} {
			kinds = append(kinds, disk.Fate{Kind: kind, At: at})
		}
	}
	rows := [][]disk.Fate{nil, {}}
	for _, a := range kinds {
		rows = append(rows, []disk.Fate{a})
		for _, b := range kinds {
			rows = append(rows, []disk.Fate{a, b}, []disk.Fate{a, b, {Kind: disk.Kept}})
		}
	}
	for _, fates := range rows {
		d, w := made(t, 8), newTold(8)
		put(t, d, w, 0, []byte{1, 2, 3, 4, 5, 6, 7, 8})
		crash(t, d, w, []disk.Fate{{Kind: disk.Kept}})
		same(t, d, w)
		put(t, d, w, 1, []byte{11, 12, 13, 14})
		put(t, d, w, 3, []byte{21, 22, 23, 24})
		crash(t, d, w, fates)
		same(t, d, w)
		crash(t, d, w, []disk.Fate{{Kind: disk.Kept}})
		same(t, d, w)
	}
}

// TestOrder lays writes over one another in all ways on a small disk: the last
// one of a byte is read, and is durable behind a sync.
func TestOrder(t *testing.T) {
	const size = 4
	var spans []disk.Write
	for at := range size {
		for n := 1; at+n <= size; n++ {
			spans = append(spans, disk.Write{At: at, Data: make([]byte, n)})
		}
	}
	for _, a := range spans {
		for _, b := range spans {
			for _, c := range spans {
				d, w := made(t, size), newTold(size)
				for i, x := range []disk.Write{a, b, c} {
					put(t, d, w, x.At, bytes.Repeat([]byte{byte(i + 1)}, len(x.Data)))
				}
				same(t, d, w)
				want := w.read()
				sync(t, d)
				same(t, d, &told{durable: want})
			}
		}
	}
}

// TestWritesOfNothing: they are none, so they have no fate, either.
func TestWritesOfNothing(t *testing.T) {
	d := made(t, 4)
	row := []byte{1, 2}
	for _, b := range [][]byte{nil, {}, row[:0], row[2:]} {
		for at := range 5 {
			write(t, d, at, b...)
		}
		for _, at := range []int{math.MinInt, -1, 5, 6, mostBytes, mostBytes + 1, math.MaxInt} {
			if e := d.Write(at, b); e != api.ErrDisk {
				t.Errorf("Write(%d) of nothing: %v", at, e)
			}
		}
	}
	write(t, d, 1, 7)
	write(t, d, 0)
	write(t, d, 2, 8)
	if l := d.Unsynced(); len(l) != 2 {
		t.Errorf("Unsynced(): %v", l)
	}
	if n := d.Crash(disk.Fate{Kind: disk.Lost}, disk.Fate{Kind: disk.Kept}); n != 2 {
		t.Errorf("Crash(): %d", n)
	}
	reads(t, d, 0, []byte{0, 0, 8, 0}, []byte{0, 0, 8, 0})
}

// TestNothingAtTheEnd: no bytes begin at the disk's end, at latest, whatever its
// size is, and whatever was written.
func TestNothingAtTheEnd(t *testing.T) {
	for _, size := range []int{0, 1, 2, 8, 300, mostBytes} {
		for _, written := range []int{0, size} {
			d := made(t, size)
			write(t, d, 0, make([]byte, written)...)
			for _, c := range []struct {
				at   int
				want api.Errno
			}{
				{0, api.OK}, {size / 2, api.OK}, {size, api.OK}, {size + 1, api.ErrDisk}, {size + 2, api.ErrDisk},
				{2*size + 1, api.ErrDisk}, {math.MaxInt - 1, api.ErrDisk}, {math.MaxInt, api.ErrDisk},
				{-1, api.ErrDisk}, {-size - 1, api.ErrDisk}, {math.MinInt, api.ErrDisk},
			} {
				nothing(t, d, c.at, c.want)
			}
		}
	}
}

// nothing asks for no bytes at a place.
func nothing(t *testing.T, d *disk.Disk, at int, want api.Errno) {
	t.Helper()
	before := d.Copy()
	for _, b := range [][]byte{nil, {}} {
		if e := d.Write(at, b); e != want {
			t.Errorf("of %d bytes Write(%d, nothing): %v, not %v", d.Size(), at, e, want)
		}
	}
	if b, e := d.Read(at, 0); e != want || len(b) != 0 {
		t.Errorf("of %d bytes Read(%d, 0): %v, %v, not %v", d.Size(), at, b, e, want)
	}
	if b, e := d.Durable(at, 0); e != want || len(b) != 0 {
		t.Errorf("of %d bytes Durable(%d, 0): %v, %v, not %v", d.Size(), at, b, e, want)
	}
	if !disk.Same(d, before) {
		t.Errorf("no bytes at %d changed the disk", at)
	}
}

// TestErrorsChangeNothing: what was refused is no write.
func TestErrorsChangeNothing(t *testing.T) {
	d, w := wrote(t), newTold(8)
	w.write(0, []byte{1, 2})
	w.sync()
	w.write(1, []byte{3, 4, 5})
	before := d.Copy()
	for _, c := range []struct{ at, n int }{
		{-1, 0}, {9, 0}, {math.MaxInt, 0}, {-1, 1}, {-1, 3}, {0, 9}, {1, 8}, {7, 2}, {8, 1}, {9, 1}, {math.MinInt, 1}, {math.MinInt, 9}, {math.MaxInt, 1}, {math.MaxInt, 9},
	} {
		put(t, d, w, c.at, bytes.Repeat([]byte{9}, c.n))
		d.Read(c.at, c.n)
		d.Durable(c.at, c.n)
		if !disk.Same(d, before) {
			t.Fatalf("a Write of %d bytes at %d changed the disk", c.n, c.at)
		}
	}
	same(t, d, w)
}

// runs does random calls on a disk, and on what is told of it, with step behind
// each one.
func runs(t *testing.T, r *rand.Rand, size, calls int, step func(d *disk.Disk, w *told)) {
	t.Helper()
	d, w := made(t, size), newTold(size)
	for range calls {
		switch n := r.Intn(20); {
		case n < 15:
			put(t, d, w, r.Intn(size+3)-1, row(r, size))
		case n < 17:
			sync(t, d)
			w.sync()
		default:
			crash(t, d, w, fates(r, size))
		}
		same(t, d, w)
		step(d, w)
	}
}

// row is some bytes, most often few.
func row(r *rand.Rand, size int) []byte {
	b := make([]byte, r.Intn(1+r.Intn(size+2)))
	r.Read(b)
	return b
}

// fates is a row of some.
func fates(r *rand.Rand, size int) []disk.Fate {
	l := make([]disk.Fate, r.Intn(12))
	for i := range l {
		l[i] = disk.Fate{Kind: r.Intn(5) - 1, At: r.Intn(size+3) - 1}
	}
	return l
}

func TestLongRuns(t *testing.T) {
	r := rand.New(rand.NewSource(13))
	for range 300 {
		size := 1 + r.Intn(40)
		runs(t, r, size, 100, func(d *disk.Disk, w *told) {
			at := r.Intn(size)
			n := r.Intn(size - at + 1)
			reads(t, d, at, w.read()[at:at+n], w.durable[at:at+n])
		})
	}
}

// TestCrashes holds P13.5 at each step of runs: what a crash leaves was durable,
// or was written there; one that keeps all is a sync; one that loses all leaves
// what was durable; what is read hangs on no sync.
func TestCrashes(t *testing.T) {
	r := rand.New(rand.NewSource(135))
	for range 100 {
		size := 1 + r.Intn(20)
		runs(t, r, size, 60, func(d *disk.Disk, w *told) {
			read, writes := w.read(), len(w.writes)
			kept, lost, synced, some := d.Copy(), d.Copy(), d.Copy(), d.Copy()
			sync(t, synced)
			if n := kept.Crash(slices.Repeat([]disk.Fate{{Kind: disk.Kept}}, writes)...); n != writes || !disk.Same(kept, synced) {
				t.Fatal("a crash that keeps all is no sync")
			}
			same(t, kept, &told{durable: read})
			if n := lost.Crash(); n != writes {
				t.Fatalf("Crash(): %d, not %d", n, writes)
			}
			same(t, lost, &told{durable: w.durable})
			some.Crash(fates(r, size)...)
			left(t, some, w)
			crashed := synced.Copy()
			crashed.Crash(fates(r, size)...)
			if !disk.Same(crashed, synced) {
				t.Fatal("a crash changed what was synced")
			}
			reads(t, d, 0, read, w.durable)
			reads(t, synced, 0, read, read)
		})
	}
}

// left holds each byte that a crash left against what it may be.
func left(t *testing.T, d *disk.Disk, w *told) {
	t.Helper()
	b, e := d.Durable(0, d.Size())
	if e != api.OK || len(d.Unsynced()) != 0 {
		t.Fatalf("behind a crash: %v, %v", e, d.Unsynced())
	}
	for i, v := range b {
		ok := v == w.durable[i]
		for _, x := range w.writes {
			ok = ok || i >= x.At && i < x.At+len(x.Data) && v == x.Data[i-x.At]
		}
		if !ok {
			t.Fatalf("byte %d behind a crash is %d", i, v)
		}
	}
}

// TestWholeDisk writes all bytes of the greatest disk, and its ends.
func TestWholeDisk(t *testing.T) {
	d, w := made(t, mostBytes), newTold(mostBytes)
	b := make([]byte, mostBytes)
	for i := range b {
		b[i] = byte(i*7 + i>>8)
	}
	put(t, d, w, 0, b)
	put(t, d, w, mostBytes-1, []byte{1})
	put(t, d, w, 0, []byte{2})
	put(t, d, w, mostBytes-1, []byte{3, 4})
	put(t, d, w, 1, b)
	same(t, d, w)
	crash(t, d, w, []disk.Fate{{Kind: disk.Torn, At: mostBytes - 1}, {Kind: disk.Kept}})
	same(t, d, w)
}

func TestCopies(t *testing.T) {
	r := rand.New(rand.NewSource(133))
	for range 50 {
		size := 1 + r.Intn(12)
		runs(t, r, size, 40, func(d *disk.Disk, w *told) {
			c, v := d.Copy(), &told{durable: slices.Clone(w.durable), writes: slices.Clone(w.writes)}
			if !disk.Same(c, d) || !disk.Same(d, c) {
				t.Fatal("a copy is another disk")
			}
			put(t, c, v, r.Intn(size), []byte{byte(r.Intn(256))})
			if disk.Same(c, d) {
				t.Fatal("a disk with one more write is the same")
			}
			same(t, c, v)
			same(t, d, w)
			crash(t, c, v, []disk.Fate{{Kind: disk.Kept}})
			same(t, c, v)
			same(t, d, w)
		})
	}
}

// TestCopyOutlivesWhatItIsOf: what the first disk does later does not reach it.
func TestCopyOutlivesWhatItIsOf(t *testing.T) {
	d := wrote(t)
	c := d.Copy()
	write(t, d, 0, 9, 9, 9, 9, 9, 9, 9, 9)
	sync(t, d)
	reads(t, c, 0, []byte{1, 3, 4, 5, 0, 0, 0, 0}, []byte{1, 2, 0, 0, 0, 0, 0, 0})
	if l := c.Unsynced(); len(l) != 1 || !equal(l[0], disk.Write{At: 1, Data: []byte{3, 4, 5}}) {
		t.Errorf("Unsynced(): %v", l)
	}
}

// TestBothGoOn writes to a disk and to its copy, in turn, behind each number of
// unsynced writes.
func TestBothGoOn(t *testing.T) {
	for n := range 20 {
		d, w := made(t, 8), newTold(8)
		for i := range n {
			put(t, d, w, i%8, []byte{byte(i)})
		}
		c, v := d.Copy(), &told{durable: slices.Clone(w.durable), writes: slices.Clone(w.writes)}
		for i := range 3 {
			put(t, c, v, i, []byte{100, 101})
			put(t, d, w, i+1, []byte{200})
		}
		same(t, d, w)
		same(t, c, v)
	}
}

// TestSame: each part of a disk tells.
func TestSame(t *testing.T) {
	type step func(d *disk.Disk)
	write := func(at int, b ...byte) step { return func(d *disk.Disk) { d.Write(at, b) } }
	sync := func(d *disk.Disk) { d.Sync() }
	of := func(size int, l ...step) *disk.Disk {
		d := made(t, size)
		for _, f := range l {
			f(d)
		}
		return d
	}
	unlike := func() []*disk.Disk {
		return []*disk.Disk{
			nil, of(0), of(1), of(4), of(5),
			of(4, write(0, 0)), of(4, write(1, 0)), of(4, write(0, 0, 0)), of(4, write(0, 1)),
			of(4, write(0, 0), write(0, 0)), of(4, write(0, 0), write(1, 0)), of(4, write(1, 0), write(0, 0)),
			of(4, write(0, 1), sync), of(4, write(1, 1), sync), of(4, write(0, 1), sync, write(0, 1)), of(4, write(0, 2), sync, write(0, 1)),
			of(4, write(0, 1), write(0, 2)), of(4, write(0, 2), write(0, 1)),
		}
	}
	a, b := unlike(), unlike()
	for i := range a {
		for j := range b {
			if ok := disk.Same(a[i], b[j]); ok != (i == j) {
				t.Errorf("Same of %d and %d: %v", i, j, ok)
			}
		}
	}
	if !disk.Same(of(4, write(0, 0), sync), of(4)) || !disk.Same(of(4, write(2, 1), write(2, 3), sync), of(4, write(2, 3), sync)) {
		t.Error("it hangs on what was written ahead of a sync")
	}
	if !disk.Same(of(4, write(9, 1), write(0), write(9)), of(4)) {
		t.Error("it hangs on what was no write")
	}
	for _, d := range a {
		if !disk.Same(d, d) || !disk.Same(d.Copy(), d) {
			t.Error("a disk is not the same as itself")
		}
	}
}

// TestSameOnlyReads: it changes neither disk.
func TestSameOnlyReads(t *testing.T) {
	a, b := wrote(t), wrote(t)
	disk.Same(a, b)
	disk.Same(b, made(t, 8))
	for _, d := range []*disk.Disk{a, b} {
		reads(t, d, 0, []byte{1, 3, 4, 5}, []byte{1, 2, 0, 0})
		if len(d.Unsynced()) != 1 {
			t.Error("its unsynced write is gone")
		}
	}
}

// TestOneRowForManyWrites: writes of one row, and of parts of it, don't share it.
func TestOneRowForManyWrites(t *testing.T) {
	d := made(t, 6)
	b := []byte{1, 2, 3}
	write(t, d, 0, b...)
	if e := d.Write(0, b); e != api.OK {
		t.Fatal(e)
	}
	b[0] = 9
	if e := d.Write(3, b[:2]); e != api.OK {
		t.Fatal(e)
	}
	b[1] = 8
	reads(t, d, 0, []byte{1, 2, 3, 9, 2, 0}, make([]byte, 6))
	sync(t, d)
	b[0], b[1] = 7, 7
	reads(t, d, 0, []byte{1, 2, 3, 9, 2, 0}, []byte{1, 2, 3, 9, 2, 0})
	if !bytes.Equal(b, []byte{7, 7, 3}) {
		t.Errorf("what was handed in is %v", b)
	}
}

func TestNoDisk(t *testing.T) {
	var d *disk.Disk
	for _, at := range []int{-1, 0, 1} {
		for _, n := range []int{-1, 0, 1} {
			b, read := d.Read(at, n)
			c, durable := d.Durable(at, n)
			if read != api.ErrNil || durable != api.ErrNil || len(b) != 0 || len(c) != 0 {
				t.Errorf("of a nil disk %d from %d on: %v, %v, %v, %v", n, at, b, read, c, durable)
			}
		}
		for _, b := range [][]byte{nil, {}, {1}} {
			if e := d.Write(at, b); e != api.ErrNil {
				t.Errorf("Write(%d, %v) to a nil disk: %v", at, b, e)
			}
		}
	}
	if d.Sync() != api.ErrNil || d.Size() != 0 || len(d.Unsynced()) != 0 || d.Copy() != nil {
		t.Error("a nil disk has something")
	}
	if d.Crash() != 0 || d.Crash(disk.Fate{Kind: disk.Kept}) != 0 {
		t.Error("a nil disk has unsynced writes")
	}
	if !disk.Same(d, nil) || disk.Same(d, made(t, 0)) || disk.Same(made(t, 0), nil) {
		t.Error("nil is the same as nil alone")
	}
}

func TestDiskMadeByHand(t *testing.T) {
	d, w := new(disk.Disk), newTold(0)
	put(t, d, w, 0, []byte{1})
	put(t, d, w, 0, nil)
	put(t, d, w, 1, nil)
	same(t, d, w)
	sync(t, d)
	crash(t, d, w, []disk.Fate{{Kind: disk.Kept}})
	same(t, d, w)
	if !disk.Same(d, made(t, 0)) || !disk.Same(d.Copy(), d) {
		t.Error("it is not a disk of no bytes")
	}
}
