package crc_test

import (
	"bytes"
	"math"
	"testing"

	"octroi/api"
	"octroi/crc"
)

// goOn is what bytes make of a row of 32 digits, as the section 'Words' tells
// it, digit by digit.
func goOn(row [32]bool, b []byte) [32]bool {
	const polynomial = 0xEDB88320
	for _, x := range b {
		for i := range 8 {
			row[i] = row[i] != (x>>i&1 == 1)
		}
		for range 8 {
			fell := row[0]
			copy(row[:], row[1:])
			row[31] = false
			for i := range row {
				row[i] = row[i] != (fell && polynomial>>i&1 == 1)
			}
		}
	}
	return row
}

// told is the check of rows behind each other, as the section 'Words' tells it.
func told(rows ...[]byte) uint32 {
	var row [32]bool
	for i := range row {
		row[i] = true
	}
	for _, b := range rows {
		row = goOn(row, b)
	}
	var c uint32
	for i := range row {
		if !row[i] {
			c |= 1 << i
		}
	}
	return c
}

// mixed is a row of n bytes without a plain order.
func mixed(n, seed int) []byte {
	b := make([]byte, n)
	x := uint32(seed)*2654435761 + 12345
	for i := range b {
		x = x*1664525 + 1013904223
		b[i] = byte(x >> 24)
	}
	return b
}

// rows are ordinary ones, empty ones, and such as are all of one byte.
func rows() [][]byte {
	l := [][]byte{nil, {}, []byte("123456789"), []byte("octroi")}
	for _, n := range []int{1, 2, 3, 4, 5, 7, 8, 9, 15, 16, 17, 31, 33, 64, 100, 255, 256, 257} {
		l = append(l, mixed(n, n), make([]byte, n), bytes.Repeat([]byte{0xff}, n))
	}
	return l
}

func join(parts ...[]byte) []byte { return bytes.Join(parts, nil) }

func wantCheck(t *testing.T, what string, got, want uint32) {
	t.Helper()
	if got != want {
		t.Errorf("%s: %08X, not %08X", what, got, want)
	}
}

func wantBytes(t *testing.T, what string, got, want []byte) {
	t.Helper()
	if !bytes.Equal(got, want) {
		t.Errorf("%s: %v, not %v", what, got, want)
	}
}

// wantRefused holds what Open answers against nothing and an error.
func wantRefused(t *testing.T, what string, row []byte, want api.Errno) {
	t.Helper()
	b, e := crc.Open(row)
	if len(b) != 0 || e != want {
		t.Errorf("%s, %v: %v, error %d, not nothing and %d", what, row, b, int(e), int(want))
	}
}

func wantOpened(t *testing.T, what string, row, want []byte) {
	t.Helper()
	b, e := crc.Open(row)
	if e != api.OK || !bytes.Equal(b, want) {
		t.Errorf("%s, %v: %v, error %d, not %v", what, row, b, int(e), want)
	}
}

// P2.1

func TestExamples(t *testing.T) {
	for _, x := range []struct {
		row  []byte
		want uint32
	}{
		{nil, 0},
		{[]byte{}, 0},
		{[]byte("123456789"), 0xCBF43926},
		{[]byte{0}, 0xD202EF8D},
	} {
		wantCheck(t, "Sum of an example", crc.Sum(x.row), x.want)
		wantCheck(t, "the example as told", told(x.row), x.want)
	}
}

func TestSumAsTold(t *testing.T) {
	for _, b := range rows() {
		wantCheck(t, "Sum", crc.Sum(b), told(b))
	}
}

func TestSumOfEachByte(t *testing.T) {
	for x := range 256 {
		b := []byte{byte(x)}
		wantCheck(t, "Sum of one byte", crc.Sum(b), told(b))
		b = append(b, b[0])
		wantCheck(t, "Sum of two", crc.Sum(b), told(b))
	}
}

// A slice with memory behind its length is gone over to its length alone.
func TestSumEndsAtTheLength(t *testing.T) {
	b := mixed(20, 3)
	wantCheck(t, "Sum", crc.Sum(b[:5]), told(b[:5]))
	wantCheck(t, "Sum of none", crc.Sum(b[:0]), 0)
	wantCheck(t, "Sum from within", crc.Sum(b[7:9]), told(b[7:9]))
}

func TestUpdateAsTold(t *testing.T) {
	for _, a := range rows() {
		for _, b := range rows() {
			wantCheck(t, "Update", crc.Update(told(a), b), told(a, b))
		}
	}
}

func TestUpdateByNothingStays(t *testing.T) {
	for _, c := range []uint32{0, 1, 0x12345678, 1 << 31, math.MaxUint32} {
		wantCheck(t, "Update by nil", crc.Update(c, nil), c)
		wantCheck(t, "Update by none", crc.Update(c, []byte{}), c)
	}
}

// Every row of 32 digits is the check of some bytes, so none is refused: each
// one is turned back, and gone on with from there.
func TestUpdateOfAnyCheck(t *testing.T) {
	for _, c := range []uint32{1, 2, 0xEDB88320, 0xDEADBEEF, 1 << 31, math.MaxUint32 - 1, math.MaxUint32} {
		var row [32]bool
		for i := range row {
			row[i] = c>>i&1 == 0
		}
		b := mixed(11, int(c>>8))
		after := goOn(row, b)
		var want uint32
		for i := range after {
			if !after[i] {
				want |= 1 << i
			}
		}
		wantCheck(t, "Update", crc.Update(c, b), want)
	}
}

func TestUpdateByteByByte(t *testing.T) {
	b := mixed(300, 5)
	var c uint32
	for i := range b {
		c = crc.Update(c, b[i:i+1])
		wantCheck(t, "Update by a byte", c, told(b[:i+1]))
	}
}

func TestJoinAsTold(t *testing.T) {
	for _, a := range rows() {
		for _, b := range rows() {
			wantCheck(t, "Join", crc.Join(told(a), told(b), uint64(len(b))), told(a, b))
		}
	}
}

func TestJoinOfAllLengths(t *testing.T) {
	a := mixed(10, 1)
	b := mixed(1100, 2)
	for n := range b {
		wantCheck(t, "Join", crc.Join(told(a), crc.Sum(b[:n]), uint64(n)), crc.Update(told(a), b[:n]))
	}
}

func TestJoinOfEmptyRows(t *testing.T) {
	for _, c := range []uint32{0, 1, 0xCBF43926, 1 << 31, math.MaxUint32} {
		wantCheck(t, "Join with none behind", crc.Join(c, 0, 0), c)
		for _, n := range []uint64{1, 9, 1 << 20, math.MaxUint64} {
			wantCheck(t, "Join with none ahead", crc.Join(0, c, n), c)
		}
	}
}

// A long row is told by a row that is doubled, and by Update alone.
func TestJoinOfLongRows(t *testing.T) {
	row := make([]byte, 1<<22)
	a := told([]byte("ahead"))
	for k := 0; k <= 22; k++ {
		n := 1 << k
		wantCheck(t, "Join of a power of 2", crc.Join(a, crc.Sum(row[:n]), uint64(n)), crc.Update(a, row[:n]))
		wantCheck(t, "Join of one less", crc.Join(a, crc.Sum(row[:n-1]), uint64(n-1)), crc.Update(a, row[:n-1]))
	}
}

// zeros is the check of n zeros, made of halves joined; n need not be a
// number of bytes that could be laid anywhere.
func zeros(n uint64) uint32 {
	if n == 0 {
		return 0
	}
	half := zeros(n / 2)
	c := crc.Join(half, half, n/2)
	if n%2 == 1 {
		c = crc.Update(c, []byte{0})
	}
	return c
}

// The polynomial's powers come back to 1 after 2^32 - 1 of them, which tells
// the checks of rows that are too long to be made.
func TestJoinOfHugeLengths(t *testing.T) {
	const round = math.MaxUint32
	a := told([]byte("ahead"))
	for _, short := range []uint64{0, 1, 5, 1000} {
		for _, times := range []uint64{1, 2, 3, 1 << 16, 1 << 31} {
			n := times*round + short
			b := make([]byte, short)
			// The check of n zeros is of as many as are over: all else is whole rounds.
			wantCheck(t, "zeros of whole rounds", zeros(n), told(b))
			wantCheck(t, "Join of whole rounds", crc.Join(a, zeros(n), n), crc.Update(a, b))
		}
	}
	wantCheck(t, "Join of the greatest length", crc.Join(a, 0x1234, math.MaxUint64), a^0x1234)
}

// P2.2

func TestPutAsTold(t *testing.T) {
	for _, b := range rows() {
		c := told(b)
		want := join(b, []byte{byte(c >> 24), byte(c >> 16), byte(c >> 8), byte(c)})
		wantBytes(t, "Put", crc.Put(b), want)
	}
	wantBytes(t, "Put of the example", crc.Put([]byte("123456789")), []byte("123456789\xcb\xf4\x39\x26"))
	wantBytes(t, "Put of nothing", crc.Put(nil), []byte{0, 0, 0, 0})
	wantBytes(t, "Put of the byte 0", crc.Put([]byte{0}), []byte{0, 0xd2, 0x02, 0xef, 0x8d})
}

func TestOpenAsTold(t *testing.T) {
	wantOpened(t, "the example", []byte("123456789\xcb\xf4\x39\x26"), []byte("123456789"))
	wantOpened(t, "the byte 0", []byte{0, 0xd2, 0x02, 0xef, 0x8d}, []byte{0})
	wantOpened(t, "nothing, with its check", []byte{0, 0, 0, 0}, nil)
}

func TestOpenOfShortRows(t *testing.T) {
	wantRefused(t, "nil", nil, api.ErrShort)
	for n := range 4 {
		wantRefused(t, "zeros", make([]byte, n), api.ErrShort)
		wantRefused(t, "any", mixed(n, 8), api.ErrShort)
		wantRefused(t, "all ones", bytes.Repeat([]byte{0xff}, n), api.ErrShort)
	}
}

// Memory behind a row's length is no part of it.
func TestOpenEndsAtTheLength(t *testing.T) {
	whole := crc.Put([]byte{5, 6, 7})
	for n := range 4 {
		wantRefused(t, "a short one with room", whole[:n], api.ErrShort)
	}
	for n := 4; n < len(whole); n++ {
		wantRefused(t, "one that was cut", whole[:n], api.ErrCrc)
	}
	more := append(bytes.Clone(whole), 9, 9, 9)
	wantOpened(t, "one with room", more[:len(whole)], []byte{5, 6, 7})
}

// Of four bytes, the check of nothing alone is right.
func TestOpenOfFourBytes(t *testing.T) {
	for i := range 4 {
		for x := 1; x < 256; x++ {
			row := make([]byte, 4)
			row[i] = byte(x)
			wantRefused(t, "a wrong check of nothing", row, api.ErrCrc)
		}
	}
	wantRefused(t, "all ones", []byte{255, 255, 255, 255}, api.ErrCrc)
}

// The highest byte stands first, and behind the bytes.
func TestOpenAsksForTheOrder(t *testing.T) {
	b := []byte("123456789")
	wantRefused(t, "the lowest byte first", join(b, []byte{0x26, 0x39, 0xf4, 0xcb}), api.ErrCrc)
	wantRefused(t, "the check ahead", join([]byte{0xcb, 0xf4, 0x39, 0x26}, b), api.ErrCrc)
	wantRefused(t, "no check", b, api.ErrCrc)
	wantRefused(t, "the check's digits not turned about", join(b, []byte{0x34, 0x0b, 0xc6, 0xd9}), api.ErrCrc)
}

// P2.3

// spoil overwrites all of a slice's memory, what lies behind its length too.
func spoil(b []byte) {
	b = b[:cap(b)]
	for i := range b {
		b[i] = 0xee
	}
}

func TestOnlyRead(t *testing.T) {
	for n := range 12 {
		all := join(crc.Put(mixed(n, 6)), []byte{1, 2, 3, 4, 5, 6, 7, 8, 9})
		kept := bytes.Clone(all)
		part := all[:n+4]
		crc.Sum(part)
		crc.Update(7, part)
		spoil(crc.Put(part))
		spoil(crc.Put(part[:0]))
		b, _ := crc.Open(part)
		_ = append(b, 99, 98, 97, 96, 95)
		spoil(b)
		crc.Open(part[:n+3])
		wantBytes(t, "what was handed in", all, kept)
	}
}

func TestPutIsNew(t *testing.T) {
	for n := range 20 {
		b := mixed(n, 4)
		first, second := crc.Put(b), crc.Put(b)
		want := bytes.Clone(first)
		_ = append(first, 99, 98, 97, 96)
		spoil(first)
		wantBytes(t, "another answer of Put", second, want)
		spoil(b)
		wantBytes(t, "Put, behind a change of what was handed in", second, want)
	}
}

func TestOpenedIsNew(t *testing.T) {
	for n := range 20 {
		row := crc.Put(mixed(n, 4))
		first, _ := crc.Open(row)
		second, _ := crc.Open(row)
		spoil(first)
		wantBytes(t, "another answer of Open", second, mixed(n, 4))
		spoil(row)
		wantBytes(t, "Open, behind a change of what was handed in", second, mixed(n, 4))
	}
}

// P2.4

func TestThereAndBack(t *testing.T) {
	for _, b := range rows() {
		wantOpened(t, "Put and Open", crc.Put(b), b)
		wantOpened(t, "Put of Put", crc.Put(crc.Put(b)), crc.Put(b))
	}
}

// changes are ways to make n bytes other ones, each one of them.
func changes(n int) [][]byte {
	var l [][]byte
	for _, x := range []byte{1, 2, 4, 8, 16, 32, 64, 128, 255, 0x55} {
		l = append(l, bytes.Repeat([]byte{x}, n))
	}
	for seed := range 20 {
		b := mixed(n, seed)
		for i := range b {
			b[i] |= 1 << (seed % 8)
		}
		l = append(l, b)
	}
	// The polynomial's own digits, which a check that is too weak would miss.
	return append(l, []byte{0x20, 0x83, 0xb8, 0xed}[:n], []byte{0x96, 0x30, 0x07, 0x77}[:n])
}

// other is row, with a change from at on.
func other(row []byte, at int, change []byte) []byte {
	b := bytes.Clone(row)
	for i, x := range change {
		b[at+i] ^= x
	}
	return b
}

func TestOtherBytesAreRefused(t *testing.T) {
	for _, n := range []int{1, 2, 3, 4, 5, 8, 40, 257} {
		row := crc.Put(mixed(n, 9))
		for width := 1; width <= 4; width++ {
			for at := 0; at+width <= n; at++ {
				for _, x := range changes(width) {
					wantRefused(t, "other bytes", other(row, at, x), api.ErrCrc)
				}
			}
		}
	}
}

func TestEachOtherByteIsRefused(t *testing.T) {
	for _, b := range [][]byte{{0}, {255}, []byte("123456789"), make([]byte, 9)} {
		row := crc.Put(b)
		for at := range row {
			for x := 1; x < 256; x++ {
				wantRefused(t, "one other byte", other(row, at, []byte{byte(x)}), api.ErrCrc)
			}
		}
	}
}

func TestOtherChecksAreRefused(t *testing.T) {
	for _, b := range rows() {
		row := crc.Put(b)
		for width := 1; width <= 4; width++ {
			for at := len(b); at+width <= len(row); at++ {
				for _, x := range changes(width) {
					wantRefused(t, "another check", other(row, at, x), api.ErrCrc)
				}
			}
		}
	}
}

func TestJoinGoesOn(t *testing.T) {
	for _, na := range []int{0, 1, 9, 40} {
		for _, nb := range []int{0, 1, 4, 33} {
			for _, nc := range []int{0, 1, 8, 100} {
				a, b, c := mixed(na, 1), mixed(nb, 2), mixed(nc, 3)
				sa, sb, sc := crc.Sum(a), crc.Sum(b), crc.Sum(c)
				first := crc.Join(crc.Join(sa, sb, uint64(nb)), sc, uint64(nc))
				last := crc.Join(sa, crc.Join(sb, sc, uint64(nc)), uint64(nb+nc))
				wantCheck(t, "the first two joined first", first, told(a, b, c))
				wantCheck(t, "the last two joined first", last, told(a, b, c))
			}
		}
	}
}

func TestJoinGoesOnForHugeLengths(t *testing.T) {
	for _, nb := range []uint64{1 << 20, 1<<40 + 7, 1<<63 - 1} {
		for _, nc := range []uint64{3, 1<<33 + 1, 1<<63 - 5} {
			first := crc.Join(crc.Join(0x11111111, 0x2345, nb), 0xfedcba98, nc)
			last := crc.Join(0x11111111, crc.Join(0x2345, 0xfedcba98, nc), nb+nc)
			wantCheck(t, "both orders", first, last)
		}
	}
}
