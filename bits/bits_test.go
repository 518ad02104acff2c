package bits_test

import (
	"bytes"
	"math"
	"testing"

	"octroi/api"
	"octroi/bits"
)

// power is 256 to the size, for sizes below 8.
func power(size int) uint64 { return uint64(1) << (8 * size) }

// greatest is the greatest number that fits a size.
func greatest(size int) uint64 {
	if size == 8 {
		return math.MaxUint64
	}
	return power(size) - 1
}

var noSizes = []int{0, 9, 10, -1, -8, 64, math.MaxInt, math.MinInt}

// samples are numbers at and around the edges of all sizes.
func samples() []uint64 {
	l := []uint64{0, 1, 2, 127, 128, 0x0102030405060708, 0xf0e0d0c0b0a09080, 1 << 63}
	for size := 1; size <= 8; size++ {
		l = append(l, greatest(size)-1, greatest(size), greatest(size)+1)
	}
	return l
}

// standsAs is how v stands in a size, worked out by division alone.
func standsAs(v uint64, size int) []byte {
	b := make([]byte, size)
	for i := size - 1; i >= 0; i-- {
		b[i] = byte(v % 256)
		v /= 256
	}
	return b
}

func wantBytes(t *testing.T, what string, got, want []byte) {
	t.Helper()
	if !bytes.Equal(got, want) {
		t.Errorf("%s: %v, not %v", what, got, want)
	}
}

func wantErr(t *testing.T, what string, got, want api.Errno) {
	t.Helper()
	if got != want {
		t.Errorf("%s: error %d, not %d", what, int(got), int(want))
	}
}

// wantReader holds a reader's place and what is left against those wanted.
func wantReader(t *testing.T, what string, r *bits.Reader, at, left int) {
	t.Helper()
	if r.At() != at || r.Left() != left {
		t.Errorf("%s: at %d with %d left, not at %d with %d left", what, r.At(), r.Left(), at, left)
	}
}

// P1.1

func TestZeroWriterIsEmpty(t *testing.T) {
	var w bits.Writer
	if w.Len() != 0 || len(w.Bytes()) != 0 {
		t.Errorf("%d, %v", w.Len(), w.Bytes())
	}
}

func TestPutStandsBehindAllElse(t *testing.T) {
	var w bits.Writer
	wantErr(t, "Put(258, 3)", w.Put(258, 3), api.OK)
	wantBytes(t, "258 of size 3", w.Bytes(), []byte{0, 1, 2})
	wantErr(t, "Put(7, 1)", w.Put(7, 1), api.OK)
	wantErr(t, "Put(.., 8)", w.Put(0x0102030405060708, 8), api.OK)
	wantBytes(t, "three numbers", w.Bytes(), []byte{0, 1, 2, 7, 1, 2, 3, 4, 5, 6, 7, 8})
	if w.Len() != 12 {
		t.Errorf("Len: %d", w.Len())
	}
}

func TestPutOfAllSizes(t *testing.T) {
	for size := 1; size <= 8; size++ {
		for _, v := range []uint64{0, 1, greatest(size) - 1, greatest(size)} {
			var w bits.Writer
			wantErr(t, "Put", w.Put(v, size), api.OK)
			wantBytes(t, "Put", w.Bytes(), standsAs(v, size))
		}
	}
}

func TestPutRefuses(t *testing.T) {
	var w bits.Writer
	w.Raw(9, 8)
	for _, size := range noSizes {
		wantErr(t, "Put of no size", w.Put(0, size), api.ErrArg)
		wantErr(t, "Put of no size", w.Put(math.MaxUint64, size), api.ErrArg)
	}
	for size := 1; size <= 7; size++ {
		wantErr(t, "Put of one too great", w.Put(power(size), size), api.ErrArg)
		wantErr(t, "Put of the greatest", w.Put(math.MaxUint64, size), api.ErrArg)
	}
	wantBytes(t, "what was refused", w.Bytes(), []byte{9, 8})
}

func TestRaw(t *testing.T) {
	var w bits.Writer
	wantErr(t, "Raw of none", w.Raw(), api.OK)
	if w.Len() != 0 {
		t.Errorf("Len: %d", w.Len())
	}
	w.Put(1, 2)
	wantErr(t, "Raw of three", w.Raw(255, 0, 7), api.OK)
	wantErr(t, "Raw of nil", w.Raw([]byte(nil)...), api.OK)
	w.Put(2, 1)
	wantErr(t, "Raw of itself", w.Raw(w.Bytes()...), api.OK)
	wantBytes(t, "Raw", w.Bytes(), []byte{0, 1, 255, 0, 7, 2, 0, 1, 255, 0, 7, 2})
	if w.Len() != 12 {
		t.Errorf("Len: %d", w.Len())
	}
}

func TestSetInPlace(t *testing.T) {
	for size := 1; size <= 8; size++ {
		for at := 0; at+size <= 10; at++ {
			for _, v := range []uint64{0, 1, greatest(size)} {
				var w bits.Writer
				want := []byte{10, 11, 12, 13, 14, 15, 16, 17, 18, 19}
				w.Raw(want...)
				wantErr(t, "Set", w.Set(at, v, size), api.OK)
				copy(want[at:], standsAs(v, size))
				wantBytes(t, "Set", w.Bytes(), want)
			}
		}
	}
}

func TestSetRefuses(t *testing.T) {
	var w bits.Writer
	row := []byte{1, 2, 3, 4, 5, 6, 7, 8, 9}
	w.Raw(row...)
	for _, size := range noSizes {
		wantErr(t, "Set of no size", w.Set(0, 0, size), api.ErrArg)
		wantErr(t, "Set of no size at the end", w.Set(9, 0, size), api.ErrArg)
	}
	for size := 1; size <= 7; size++ {
		wantErr(t, "Set of one too great", w.Set(0, power(size), size), api.ErrArg)
	}
	for size := 1; size <= 8; size++ {
		for _, at := range []int{-1, -size, math.MinInt, 10 - size, 9, 10, math.MaxInt, math.MaxInt - size} {
			wantErr(t, "Set where not all bytes are", w.Set(at, 0, size), api.ErrArg)
		}
	}
	wantBytes(t, "what was refused", w.Bytes(), row)
	var none bits.Writer
	wantErr(t, "Set of an empty writer", none.Set(0, 0, 1), api.ErrArg)
}

// A row has memory behind its end as it grows: Set must not reach it.
func TestSetStaysWithinTheLength(t *testing.T) {
	var w bits.Writer
	for n := 1; n <= 40; n++ {
		w.Put(1, 1)
		wantErr(t, "Set at the end", w.Set(n, 5, 1), api.ErrArg)
		wantErr(t, "Set over the end", w.Set(n-1, 5, 2), api.ErrArg)
	}
}

// P1.2

func TestReaderGets(t *testing.T) {
	row := make([]byte, 0, 36)
	for i := 0; i < 36; i++ {
		row = append(row, byte(i*37+1))
	}
	r := bits.Read(row)
	wantReader(t, "a new reader", r, 0, 36)
	at := 0
	for size := 1; size <= 8; size++ {
		v, e := r.Get(size)
		wantErr(t, "Get", e, api.OK)
		wantBytes(t, "Get", standsAs(v, size), row[at:at+size])
		at += size
		wantReader(t, "Get", r, at, 36-at)
	}
	v, e := r.Get(1)
	if v != 0 || e != api.ErrShort {
		t.Errorf("Get at the end: %d, %d", v, int(e))
	}
}

func TestReaderGetRefusesAndStays(t *testing.T) {
	for left := 0; left < 8; left++ {
		r := bits.Read([]byte{9, 1, 2, 3, 4, 5, 6, 7}[:left+1])
		r.Get(1)
		for size := left + 1; size <= 8; size++ {
			v, e := r.Get(size)
			if v != 0 || e != api.ErrShort {
				t.Errorf("Get(%d) with %d left: %d, %d", size, left, v, int(e))
			}
		}
		for _, size := range noSizes {
			v, e := r.Get(size)
			if v != 0 || e != api.ErrArg {
				t.Errorf("Get(%d) with %d left: %d, %d", size, left, v, int(e))
			}
		}
		wantReader(t, "what was refused", r, 1, left)
		if left > 0 {
			v, e := r.Get(left)
			wantErr(t, "Get of all that is left", e, api.OK)
			wantBytes(t, "Get of all that is left", standsAs(v, left), []byte{1, 2, 3, 4, 5, 6, 7}[:left])
		}
		wantReader(t, "behind all", r, left+1, 0)
	}
}

func TestReaderTakes(t *testing.T) {
	r := bits.Read([]byte{1, 2, 3, 4, 5, 6, 7, 8, 9, 10, 11, 12})
	b, e := r.Take(0)
	if len(b) != 0 || e != api.OK {
		t.Errorf("Take(0): %v, %d", b, int(e))
	}
	wantReader(t, "Take(0)", r, 0, 12)
	b, e = r.Take(9)
	wantErr(t, "Take(9)", e, api.OK)
	wantBytes(t, "Take(9)", b, []byte{1, 2, 3, 4, 5, 6, 7, 8, 9})
	wantReader(t, "Take(9)", r, 9, 3)
	for n, want := range map[int]api.Errno{-1: api.ErrArg, math.MinInt: api.ErrArg, 4: api.ErrShort, math.MaxInt: api.ErrShort} {
		b, e = r.Take(n)
		if len(b) != 0 || e != want {
			t.Errorf("Take(%d): %v, %d", n, b, int(e))
		}
		wantReader(t, "what was refused", r, 9, 3)
	}
	b, e = r.Take(3)
	wantErr(t, "Take of all that is left", e, api.OK)
	wantBytes(t, "Take of all that is left", b, []byte{10, 11, 12})
	wantReader(t, "behind all", r, 12, 0)
	b, e = r.Take(0)
	if len(b) != 0 || e != api.OK {
		t.Errorf("Take(0) at the end: %v, %d", b, int(e))
	}
	b, e = r.Take(1)
	if len(b) != 0 || e != api.ErrShort {
		t.Errorf("Take(1) at the end: %v, %d", b, int(e))
	}
}

func TestReaderOfNothing(t *testing.T) {
	for _, r := range []*bits.Reader{bits.Read(nil), bits.Read([]byte{}), new(bits.Reader)} {
		if r == nil {
			t.Fatal("no reader")
		}
		wantReader(t, "a reader of nothing", r, 0, 0)
		v, e := r.Get(1)
		if v != 0 || e != api.ErrShort {
			t.Errorf("Get: %d, %d", v, int(e))
		}
		b, e := r.Take(0)
		if len(b) != 0 || e != api.OK {
			t.Errorf("Take(0): %v, %d", b, int(e))
		}
		_, e = r.Take(-1)
		wantErr(t, "Take(-1)", e, api.ErrArg)
	}
}

// A slice with memory behind its length is read to its length alone.
func TestReaderEndsAtTheLength(t *testing.T) {
	r := bits.Read([]byte{1, 2, 3, 4}[:2])
	_, e := r.Get(3)
	wantErr(t, "Get", e, api.ErrShort)
	_, e = r.Take(3)
	wantErr(t, "Take", e, api.ErrShort)
	_, e = bits.Get([]byte{1, 2, 3, 4}[:2], 0, 3)
	wantErr(t, "Get at a place", e, api.ErrShort)
}

// P1.3

func TestGetAtPlaces(t *testing.T) {
	row := []byte{1, 2, 3, 4, 5, 6, 7, 8, 9, 250}
	for size := 1; size <= 8; size++ {
		for at := 0; at <= 12; at++ {
			v, e := bits.Get(row, at, size)
			if at+size > len(row) {
				if v != 0 || e != api.ErrShort {
					t.Errorf("Get from %d, size %d: %d, %d", at, size, v, int(e))
				}
				continue
			}
			wantErr(t, "Get", e, api.OK)
			wantBytes(t, "Get", standsAs(v, size), row[at:at+size])
		}
	}
	v, e := bits.Get([]byte{1, 2, 3}, 1, 2)
	if v != 515 || e != api.OK {
		t.Errorf("%d, %d", v, int(e))
	}
}

func TestGetRefuses(t *testing.T) {
	for _, x := range []struct {
		row      []byte
		at, size int
		want     api.Errno
	}{
		{[]byte{1, 2}, -1, 1, api.ErrArg},
		{[]byte{1, 2}, math.MinInt, 8, api.ErrArg},
		{[]byte{1, 2}, math.MaxInt, 1, api.ErrShort},
		{[]byte{1, 2}, math.MaxInt, 8, api.ErrShort},
		{[]byte{1, 2}, math.MaxInt - 7, 8, api.ErrShort},
		{nil, 0, 1, api.ErrShort},
		{[]byte{}, 0, 1, api.ErrShort},
		{nil, -1, 1, api.ErrArg},
		{nil, -1, 0, api.ErrArg},
	} {
		v, e := bits.Get(x.row, x.at, x.size)
		if v != 0 || e != x.want {
			t.Errorf("Get of %v from %d, size %d: %d, %d", x.row, x.at, x.size, v, int(e))
		}
	}
	for _, size := range noSizes {
		for _, at := range []int{0, 1, 2, 3, -1, math.MaxInt} {
			v, e := bits.Get([]byte{1, 2}, at, size)
			if v != 0 || e != api.ErrArg {
				t.Errorf("Get from %d, size %d: %d, %d", at, size, v, int(e))
			}
		}
	}
}

func TestLeast(t *testing.T) {
	if n := bits.Least(0); n != 1 {
		t.Errorf("Least(0): %d", n)
	}
	for size := 1; size <= 8; size++ {
		if n := bits.Least(greatest(size)); n != size {
			t.Errorf("Least(%d): %d", greatest(size), n)
		}
		if size < 8 {
			if n := bits.Least(power(size)); n != size+1 {
				t.Errorf("Least(%d): %d", power(size), n)
			}
		}
	}
}

// Of nil ones.

func TestNilWriter(t *testing.T) {
	var w *bits.Writer
	wantErr(t, "Put", w.Put(1, 1), api.ErrNil)
	wantErr(t, "Put of no size", w.Put(1, 0), api.ErrNil)
	wantErr(t, "Raw", w.Raw(1), api.ErrNil)
	wantErr(t, "Raw of none", w.Raw(), api.ErrNil)
	wantErr(t, "Set", w.Set(0, 1, 1), api.ErrNil)
	wantErr(t, "Set of no size", w.Set(-1, 1, 0), api.ErrNil)
	if w.Len() != 0 || len(w.Bytes()) != 0 {
		t.Errorf("%d, %v", w.Len(), w.Bytes())
	}
}

func TestNilReader(t *testing.T) {
	var r *bits.Reader
	for _, size := range []int{1, 8, 0, 9, -1} {
		v, e := r.Get(size)
		if v != 0 || e != api.ErrNil {
			t.Errorf("Get(%d): %d, %d", size, v, int(e))
		}
	}
	for _, n := range []int{0, 1, -1} {
		b, e := r.Take(n)
		if len(b) != 0 || e != api.ErrNil {
			t.Errorf("Take(%d): %v, %d", n, b, int(e))
		}
	}
	wantReader(t, "a nil reader", r, 0, 0)
}

// P1.4

// spoil overwrites all of a slice's memory, what lies behind its length too.
func spoil(b []byte) {
	b = b[:cap(b)]
	for i := range b {
		b[i] = 0xee
	}
}

func TestRawKeepsACopy(t *testing.T) {
	all := []byte{1, 2, 3, 4, 5, 6}
	part := all[:3]
	var w bits.Writer
	w.Raw(part...)
	w.Put(9, 1)
	w.Set(0, 77, 1)
	wantBytes(t, "what was handed in", all, []byte{1, 2, 3, 4, 5, 6})
	spoil(part)
	wantBytes(t, "what was kept", w.Bytes(), []byte{77, 2, 3, 9})
}

func TestBytesAreNew(t *testing.T) {
	var w bits.Writer
	for n := 1; n <= 20; n++ {
		w.Put(uint64(n), 1)
		a, b := w.Bytes(), w.Bytes()
		want := bytes.Clone(b)
		spoil(a)
		wantBytes(t, "another answer", b, want)
		wantBytes(t, "the writer's row", w.Bytes(), want)
		w.Set(0, 200, 1)
		wantBytes(t, "an answer from before Set", b, want)
		w.Set(0, 1, 1)
	}
}

// What an answer has behind its length is not where the writer goes on.
func TestBytesShareNoRoom(t *testing.T) {
	var w bits.Writer
	w.Raw(1, 2, 3)
	a := w.Bytes()
	w.Raw(4)
	_ = append(a, 99)
	wantBytes(t, "the writer's row", w.Bytes(), []byte{1, 2, 3, 4})
}

func TestReadKeepsACopy(t *testing.T) {
	all := []byte{1, 2, 3, 4, 5, 6}
	part := all[:4]
	r := bits.Read(part)
	spoil(part)
	v, e := r.Get(2)
	if v != 258 || e != api.OK {
		t.Errorf("%d, %d", v, int(e))
	}
	b, _ := r.Take(2)
	wantBytes(t, "what was kept", b, []byte{3, 4})
	wantReader(t, "behind all", r, 4, 0)
}

func TestReadersOnlyRead(t *testing.T) {
	all := []byte{1, 2, 3, 4, 5, 6}
	r := bits.Read(all[:4])
	r.Get(1)
	b, _ := r.Take(2)
	spoil(b)
	bits.Get(all[:4], 1, 2)
	wantBytes(t, "what was handed in", all, []byte{1, 2, 3, 4, 5, 6})
	v, e := r.Get(1)
	if v != 4 || e != api.OK {
		t.Errorf("behind what was taken, and spoilt: %d, %d", v, int(e))
	}
}

func TestTakenIsNew(t *testing.T) {
	r := bits.Read([]byte{1, 2, 3, 4})
	a, _ := r.Take(2)
	_ = append(a, 99)
	spoil(a)
	b, _ := r.Take(2)
	wantBytes(t, "the next taken", b, []byte{3, 4})
}

// A second value of a reader is where taken bytes that were the reader's own
// memory would show.
func TestTakenIsNotTheReadersOwn(t *testing.T) {
	r := bits.Read([]byte{1, 2, 3, 4})
	second := *r
	a, _ := r.Take(2)
	spoil(a)
	b, _ := second.Take(2)
	wantBytes(t, "the second one's", b, []byte{1, 2})
}

func TestReadersOfOneRowAreTheirOwn(t *testing.T) {
	row := []byte{1, 2, 3, 4}
	a, b := bits.Read(row), bits.Read(row)
	a.Get(3)
	wantReader(t, "the one that read", a, 3, 1)
	wantReader(t, "the other one", b, 0, 4)
}

// P1.5

func TestPutIsGot(t *testing.T) {
	type put struct {
		v    uint64
		size int
	}
	var w bits.Writer
	var puts []put
	for _, v := range samples() {
		for size := bits.Least(v); size <= 8; size++ {
			wantErr(t, "Put", w.Put(v, size), api.OK)
			puts = append(puts, put{v, size})
		}
	}
	row := w.Bytes()
	r := bits.Read(row)
	at := 0
	for _, p := range puts {
		v, e := bits.Get(row, at, p.size)
		if v != p.v || e != api.OK {
			t.Errorf("at %d, size %d: %d, %d, not %d", at, p.size, v, int(e), p.v)
		}
		v, e = r.Get(p.size)
		if v != p.v || e != api.OK {
			t.Errorf("next, size %d: %d, %d, not %d", p.size, v, int(e), p.v)
		}
		at += p.size
	}
	wantReader(t, "behind all", r, len(row), 0)
	if w.Len() != len(row) || at != len(row) {
		t.Errorf("%d, %d, %d", w.Len(), at, len(row))
	}
}

func TestFitsJustFromItsLeastSizeOn(t *testing.T) {
	for _, v := range samples() {
		least := bits.Least(v)
		if least < 1 || least > 8 {
			t.Errorf("Least(%d): %d", v, least)
		}
		for size := 1; size <= 8; size++ {
			want := api.OK
			if size < least {
				want = api.ErrArg
			}
			var w bits.Writer
			w.Raw(make([]byte, 8)...)
			wantErr(t, "Put", w.Put(v, size), want)
			wantErr(t, "Set", w.Set(0, v, size), want)
		}
	}
}

func TestSetIsGotAndChangesJustItsBytes(t *testing.T) {
	row := []byte{201, 202, 203, 204, 205, 206, 207, 208, 209, 210, 211, 212}
	for _, v := range samples() {
		for size := bits.Least(v); size <= 8; size++ {
			for at := 0; at+size <= len(row); at++ {
				var w bits.Writer
				w.Raw(row...)
				wantErr(t, "Set", w.Set(at, v, size), api.OK)
				b := w.Bytes()
				if len(b) != len(row) {
					t.Fatalf("%d bytes", len(b))
				}
				wantBytes(t, "ahead of it", b[:at], row[:at])
				wantBytes(t, "behind it", b[at+size:], row[at+size:])
				got, e := bits.Get(b, at, size)
				if got != v || e != api.OK {
					t.Errorf("at %d, size %d: %d, %d, not %d", at, size, got, int(e), v)
				}
			}
		}
	}
}
