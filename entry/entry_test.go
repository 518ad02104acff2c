package entry_test

import (
	"bytes"
	"math"
	"math/rand"
	"slices"
	"testing"

	"octroi/api"
	"octroi/entry"
)

// The chapter's sizes, as numbers of the tests' own.
const (
	blockSize = 64
	room      = 46
	mostBytes = 2048
)

// digits is how v stands in so many bytes, the greatest first.
func digits(v uint64, size int) []byte {
	b := make([]byte, size)
	for i := size - 1; i >= 0; i-- {
		b[i] = byte(v % 256)
		v /= 256
	}
	return b
}

// value is what bytes stand for.
func value(b []byte) uint64 {
	var v uint64
	for _, x := range b {
		v = v*256 + uint64(x)
	}
	return v
}

// toldCheck is the check of bytes as chapter 2 tells it, digit by digit.
func toldCheck(b []byte) uint32 {
	c := uint32(math.MaxUint32)
	for _, x := range b {
		c ^= uint32(x)
		for range 8 {
			if fell := c % 2; fell == 1 {
				c = c/2 ^ 0xEDB88320
			} else {
				c /= 2
			}
		}
	}
	return ^c
}

// toldBlock is a block of 48 bytes and a stamp, with the check that it should
// have, whatever the bytes are.
func toldBlock(ahead []byte, epoch uint32, n uint64) []byte {
	stamp := slices.Concat(digits(uint64(epoch), 4), digits(n, 8))
	check := digits(uint64(toldCheck(slices.Concat(ahead, stamp))), 4)
	return slices.Concat(ahead, check, stamp)
}

// toldAhead is what stands ahead of a block's check.
func toldAhead(kind byte, count int, piece []byte) []byte {
	b := make([]byte, 48)
	b[0], b[1] = kind, byte(count)
	copy(b[2:], piece)
	return b
}

// toldBlocks are an entry's blocks as the section 'Words' tells them; the length
// in its row is handed in, so that it may be a wrong one.
func toldBlocks(x entry.Entry, length int) []byte {
	row := slices.Concat(digits(uint64(x.Prev), 4), digits(uint64(length), 2), x.Bytes)
	var l []byte
	for kind := byte(1); len(row) > 0; kind = 2 {
		n := min(len(row), room)
		l = append(l, toldBlock(toldAhead(kind, n, row[:n]), x.Epoch, x.N)...)
		row = row[n:]
	}
	return l
}

// told are an entry's blocks.
func told(x entry.Entry) []byte { return toldBlocks(x, len(x.Bytes)) }

// noughts tells whether there is nothing else.
func noughts(b []byte) bool { return bytes.Count(b, []byte{0}) == len(b) }

// toldRight tells whether a block is right, part by part.
func toldRight(b []byte) bool {
	kind, count := b[0], int(b[1])
	if kind < 1 || kind > 2 || count < 1 || count > room || !noughts(b[2+count:48]) {
		return false
	}
	return bytes.Equal(b[:blockSize], toldBlock(b[:48], uint32(value(b[52:56])), value(b[56:64])))
}

// toldRead is what stands at the beginning of b, told block by block.
func toldRead(b []byte) (entry.Entry, int, api.Errno) {
	switch {
	case len(b) < blockSize:
		return entry.Entry{}, 0, api.ErrShort
	case noughts(b[:blockSize]):
		return entry.Entry{}, 0, api.ErrBlank
	case !toldRight(b) || b[0] != 1:
		return entry.Entry{}, 0, api.ErrCrc
	}
	x := entry.Entry{Epoch: uint32(value(b[52:56])), N: value(b[56:64]), Prev: uint32(value(b[2:6]))}
	length := int(value(b[6:8]))
	if length > mostBytes || x.Epoch == 0 || x.Prev > x.Epoch {
		return entry.Entry{}, 0, api.ErrCrc
	}
	var row []byte
	blocks := 0
	for ; len(row) < 6+length; blocks++ {
		c := b[blocks*blockSize:]
		if len(c) < blockSize || !toldRight(c) || blocks > 0 && c[0] != 2 || !bytes.Equal(c[52:64], b[52:64]) ||
			int(c[1]) != min(room, 6+length-len(row)) {
			return entry.Entry{}, 0, api.ErrCrc
		}
		row = append(row, c[2:2+int(c[1])]...)
	}
	x.Bytes = row[6:]
	return x, blocks, api.OK
}

// mixed are n bytes, other ones for each seed.
func mixed(n, seed int) []byte {
	b := make([]byte, n)
	rand.New(rand.NewSource(int64(seed))).Read(b)
	return b
}

// lengths are those at and around the ends of blocks, and of entries.
func lengths() []int {
	l := []int{0, 1, 2, 6, 7, 8}
	for n := 40; n < mostBytes; n += room {
		l = append(l, n-1, n, n+1)
	}
	return append(l, mostBytes-1, mostBytes)
}

// samples are entries of all those lengths, and with numbers at their ends.
func samples() []entry.Entry {
	var l []entry.Entry
	for i, n := range lengths() {
		l = append(l, entry.Entry{Epoch: uint32(5 + i), N: uint64(i) << 30, Prev: uint32(i), Bytes: mixed(n, i)})
	}
	for _, n := range []int{0, 7, 41, 300} {
		l = append(l,
			entry.Entry{Epoch: 1, Bytes: mixed(n, 1)},
			entry.Entry{Epoch: 1, Prev: 1, N: 1, Bytes: make([]byte, n)},
			entry.Entry{Epoch: math.MaxUint32, N: math.MaxUint64, Bytes: bytes.Repeat([]byte{0xff}, n)},
			entry.Entry{Epoch: math.MaxUint32, N: math.MaxUint64, Prev: math.MaxUint32, Bytes: mixed(n, 3)},
			entry.Entry{Epoch: 0x01020304, N: 0x05060708090a0b0c, Prev: 0x01000000, Bytes: mixed(n, 4)})
	}
	return l
}

func same(a, b entry.Entry) bool {
	return a.Epoch == b.Epoch && a.N == b.N && a.Prev == b.Prev && bytes.Equal(a.Bytes, b.Bytes)
}

// put are the blocks of an entry that may be.
func put(t *testing.T, x entry.Entry) []byte {
	t.Helper()
	b, e := entry.Put(x)
	if e != api.OK {
		t.Fatalf("Put of epoch %d, number %d, Prev %d, %d bytes: %v", x.Epoch, x.N, x.Prev, len(x.Bytes), e)
	}
	return b
}

// wantRead holds what is read against what is told.
func wantRead(t *testing.T, what string, b []byte) {
	t.Helper()
	want, blocks, err := toldRead(b)
	x, n, e := entry.Read(b)
	if !same(x, want) || n != blocks || e != err {
		t.Errorf("Read of %s: %v, %d, %v, not %v, %d, %v", what, x, n, e, want, blocks, err)
	}
}

// wantNone asks for an error, and nothing beside it.
func wantNone(t *testing.T, what string, b []byte, want api.Errno) {
	t.Helper()
	x, n, e := entry.Read(b)
	if e != want || n != 0 || !same(x, entry.Entry{}) {
		t.Errorf("Read of %s: %v, %d, %v, not %v", what, x, n, e, want)
	}
}

// wantStamp holds a stamp against the one wanted.
func wantStamp(t *testing.T, what string, b []byte, epoch uint32, n uint64, want api.Errno) {
	t.Helper()
	gotEpoch, gotN, e := entry.Stamp(b)
	if gotEpoch != epoch || gotN != n || e != want {
		t.Errorf("Stamp of %s: %d, %d, %v, not %d, %d, %v", what, gotEpoch, gotN, e, epoch, n, want)
	}
}

// P14.1

func TestSizes(t *testing.T) {
	if entry.Size != blockSize || entry.Room != room || entry.MaxEntry != mostBytes {
		t.Errorf("%d, %d, %d", entry.Size, entry.Room, entry.MaxEntry)
	}
}

func TestBlocks(t *testing.T) {
	for n, want := range map[int]int{
		0: 1, 40: 1, 41: 2, 86: 2, 87: 3, 2018: 44, 2019: 45, 2048: 45, 2049: 0, 4096: 0,
		-1: 0, -6: 0, -7: 0, -64: 0, math.MinInt: 0, math.MaxInt: 0, math.MaxInt - 45: 0, 1 << 32: 0,
	} {
		if got := entry.Blocks(n); got != want {
			t.Errorf("Blocks(%d): %d, not %d", n, got, want)
		}
	}
	for n := 0; n <= mostBytes; n++ {
		if got, want := entry.Blocks(n), len(toldBlocks(entry.Entry{Epoch: 1, Bytes: make([]byte, n)}, n))/blockSize; got != want {
			t.Errorf("Blocks(%d): %d, not %d", n, got, want)
		}
	}
}

func TestPutOfTheExample(t *testing.T) {
	b := put(t, entry.Entry{Epoch: 1, Bytes: []byte{7}})
	if len(b) != blockSize {
		t.Fatalf("%d bytes", len(b))
	}
	if !bytes.Equal(b[:10], []byte{1, 7, 0, 0, 0, 0, 0, 1, 7, 0}) || !noughts(b[10:48]) {
		t.Errorf("ahead of the check: %v", b[:48])
	}
	if !bytes.Equal(b[52:], []byte{0, 0, 0, 1, 0, 0, 0, 0, 0, 0, 0, 0}) {
		t.Errorf("the stamp: %v", b[52:])
	}
}

func TestPutAsTold(t *testing.T) {
	for _, x := range samples() {
		if b := put(t, x); !bytes.Equal(b, told(x)) {
			t.Errorf("Put of epoch %d, number %d, Prev %d, %d bytes: %v, not %v", x.Epoch, x.N, x.Prev, len(x.Bytes), b, told(x))
		}
	}
}

func TestPutRefuses(t *testing.T) {
	for _, x := range []struct {
		epoch, prev uint32
		length      int
		want        api.Errno
	}{
		{1, 0, mostBytes + 1, api.ErrLimit},
		{0, 0, mostBytes + 1, api.ErrLimit},
		{1, 2, mostBytes + 1, api.ErrLimit},
		{1, 0, 70000, api.ErrLimit},
		{1, 0, 65536 + 5, api.ErrLimit},
		{0, 0, 0, api.ErrArg},
		{0, 0, mostBytes, api.ErrArg},
		{0, 1, 3, api.ErrArg},
		{1, 2, 3, api.ErrArg},
		{math.MaxUint32 - 1, math.MaxUint32, 3, api.ErrArg},
		{2, 2, 3, api.OK},
		{2, 1, mostBytes, api.OK},
		{math.MaxUint32, math.MaxUint32, 0, api.OK},
	} {
		b, e := entry.Put(entry.Entry{Epoch: x.epoch, Prev: x.prev, N: 9, Bytes: make([]byte, x.length)})
		if e != x.want || (len(b) > 0) != (x.want == api.OK) {
			t.Errorf("Put of epoch %d, Prev %d, %d bytes: %d bytes, %v, not %v", x.epoch, x.prev, x.length, len(b), e, x.want)
		}
	}
}

// P14.2

func TestReadOfTheExamples(t *testing.T) {
	b := put(t, entry.Entry{Epoch: 1, Bytes: []byte{7}})
	b[blockSize-1] = 5
	wantNone(t, "another last byte", b, api.ErrCrc)
	wantNone(t, "64 noughts", make([]byte, blockSize), api.ErrBlank)
	wantNone(t, "63 noughts", make([]byte, blockSize-1), api.ErrShort)
	wantStamp(t, "another last byte", b, 0, 0, api.ErrCrc)
	wantStamp(t, "64 noughts", make([]byte, blockSize), 0, 0, api.ErrBlank)
	wantStamp(t, "63 noughts", make([]byte, blockSize-1), 0, 0, api.ErrShort)
}

func TestReadOfShortBytes(t *testing.T) {
	wantNone(t, "nil", nil, api.ErrShort)
	wantStamp(t, "nil", nil, 0, 0, api.ErrShort)
	whole := put(t, entry.Entry{Epoch: 3, N: 8, Bytes: mixed(40, 1)})
	for n := range blockSize {
		// What lies behind the length is no part of it.
		wantNone(t, "the first bytes of a block", whole[:n], api.ErrShort)
		wantStamp(t, "the first bytes of a block", whole[:n], 0, 0, api.ErrShort)
	}
}

func TestReadOfTooFewBlocks(t *testing.T) {
	for _, n := range []int{41, 86, 87, 300, mostBytes} {
		whole := put(t, entry.Entry{Epoch: 3, N: 8, Bytes: mixed(n, 1)})
		for cut := blockSize; cut < len(whole); cut++ {
			wantNone(t, "an entry that was cut", whole[:cut], api.ErrCrc)
			wantStamp(t, "an entry that was cut", whole[:cut], 3, 8, api.OK)
		}
	}
}

func TestReadOfBlanks(t *testing.T) {
	whole := put(t, entry.Entry{Epoch: 3, N: 8, Bytes: mixed(100, 1)})
	wantNone(t, "an entry behind a blank block", slices.Concat(make([]byte, blockSize), whole), api.ErrBlank)
	wantNone(t, "many noughts", make([]byte, 1000), api.ErrBlank)
	for i := range blockSize {
		b := make([]byte, 3*blockSize)
		b[i] = 1
		wantNone(t, "noughts but for one", b, api.ErrCrc)
		wantStamp(t, "noughts but for one", b, 0, 0, api.ErrCrc)
	}
	b := make([]byte, 3*blockSize)
	b[blockSize] = 1
	wantNone(t, "noughts but for one behind the block", b, api.ErrBlank)
	wantStamp(t, "noughts but for one behind the block", b, 0, 0, api.ErrBlank)
	lack := slices.Concat(whole[:blockSize], make([]byte, 5*blockSize))
	wantNone(t, "one whose second block is blank", lack, api.ErrCrc)
}

// Right blocks that are not those of an entry, with a check that is right.
func TestRightBlocksOfNoEntry(t *testing.T) {
	const epoch, n = 5, 77
	row := slices.Concat(digits(4, 4), digits(60, 2), mixed(60, 2))
	first := toldBlock(toldAhead(1, room, row[:room]), epoch, n)
	second := toldBlock(toldAhead(2, 20, row[room:]), epoch, n)
	if x, blocks, e := entry.Read(slices.Concat(first, second)); e != api.OK || blocks != 2 || !bytes.Equal(x.Bytes, row[6:]) {
		t.Fatalf("the entry: %v, %d, %v", x, blocks, e)
	}
	later := func(kind byte, count int, piece []byte, epoch uint32, n uint64) []byte {
		return slices.Concat(first, toldBlock(toldAhead(kind, count, piece), epoch, n), second, second)
	}
	short := slices.Concat(digits(4, 4), digits(1, 2), []byte{7})
	for what, b := range map[string][]byte{
		"a later block":                  slices.Concat(second, second, second),
		"a first block of kind 2":        slices.Concat(toldBlock(toldAhead(2, room, row[:room]), epoch, n), second),
		"a second block of kind 1":       later(1, 20, row[room:], epoch, n),
		"a second block, of that kind":   slices.Concat(first, first, second),
		"a greater epoch behind":         later(2, 20, row[room:], epoch+1, n),
		"a lesser epoch behind":          later(2, 20, row[room:], epoch-1, n),
		"another number behind":          later(2, 20, row[room:], epoch, n+1),
		"another number, far off":        later(2, 20, row[room:], epoch, n+1<<56),
		"too few bytes behind":           later(2, 19, row[room:len(row)-1], epoch, n),
		"too many bytes behind":          later(2, 21, row[room:], epoch, n),
		"a first block with fewer":       slices.Concat(toldBlock(toldAhead(1, 45, row[:45]), epoch, n), toldBlock(toldAhead(2, 21, row[45:]), epoch, n)),
		"a row of one byte":              toldBlock(toldAhead(1, 1, nil), epoch, n),
		"a row of five bytes":            toldBlock(toldAhead(1, 5, digits(4, 4)), epoch, n),
		"a row that is not whole":        toldBlock(toldAhead(1, 6, short[:6]), epoch, n),
		"a row that is too long":         toldBlock(toldAhead(1, 8, short), epoch, n),
		"a length of less than is there": slices.Concat(toldBlock(toldAhead(1, room, slices.Concat(digits(4, 4), digits(39, 2), row[6:room])), epoch, n), second),
		"the epoch 0":                    toldBlocks(entry.Entry{N: n, Bytes: row}, len(row)),
		"Prev above the epoch":           toldBlocks(entry.Entry{Epoch: epoch, Prev: epoch + 1, N: n, Bytes: row}, len(row)),
		"2049 bytes":                     told(entry.Entry{Epoch: epoch, N: n, Bytes: make([]byte, mostBytes+1)}),
		"65535 bytes":                    told(entry.Entry{Epoch: epoch, N: n, Bytes: make([]byte, 65535)}),
		"a length that wraps":            toldBlocks(entry.Entry{Epoch: epoch, N: n, Bytes: make([]byte, 3)}, 65535),
	} {
		wantNone(t, what, b, api.ErrCrc)
		wantNone(t, what+", and noughts", slices.Concat(b, make([]byte, 3000)), api.ErrCrc)
		wantRead(t, what, b)
	}
}

// Each one of these blocks has its check, or not, but is not right.
func TestBlocksThatAreNotRight(t *testing.T) {
	piece := slices.Concat(digits(4, 4), digits(3, 2), []byte{7, 8, 9})
	good := toldBlock(toldAhead(1, 9, piece), 5, 77)
	if _, _, e := entry.Read(good); e != api.OK {
		t.Fatal(e)
	}
	wantStamp(t, "a right block", good, 5, 77, api.OK)
	bad := map[string][]byte{
		"the kind 0":                toldBlock(toldAhead(0, 9, piece), 5, 77),
		"the kind 3":                toldBlock(toldAhead(3, 9, piece), 5, 77),
		"the kind 255":              toldBlock(toldAhead(255, 9, piece), 5, 77),
		"no bytes":                  toldBlock(toldAhead(1, 0, nil), 5, 77),
		"47 bytes":                  toldBlock(toldAhead(1, 47, piece), 5, 77),
		"255 bytes":                 toldBlock(toldAhead(1, 255, piece), 5, 77),
		"a check of 48 bytes alone": slices.Concat(good[:48], digits(uint64(toldCheck(good[:48])), 4), good[52:]),
		"a check of what stands behind it, and ahead": slices.Concat(good[:48], digits(uint64(toldCheck(slices.Concat(good[52:], good[:48]))), 4), good[52:]),
		"a check, the least byte first":               slices.Concat(good[:48], []byte{good[51], good[50], good[49], good[48]}, good[52:]),
		"no check":                                    slices.Concat(good[:48], make([]byte, 4), good[52:]),
	}
	for i := 9; i < room; i++ {
		ahead := toldAhead(1, 9, piece)
		ahead[2+i] = 1
		bad["a byte behind the row's "+string(rune('A'+i))] = toldBlock(ahead, 5, 77)
	}
	for what, b := range bad {
		wantNone(t, what, b, api.ErrCrc)
		wantStamp(t, what, b, 0, 0, api.ErrCrc)
	}
}

func TestEachOtherByteIsRefused(t *testing.T) {
	for _, n := range []int{0, 1, 40, 41, 130} {
		whole := put(t, entry.Entry{Epoch: 3, N: 8, Prev: 2, Bytes: mixed(n, n)})
		for at := range whole {
			for _, x := range []byte{1, 2, 3, 128, 255, whole[at]} {
				if x == 0 {
					continue
				}
				b := bytes.Clone(whole)
				b[at] ^= x
				wantNone(t, "one other byte", b, api.ErrCrc)
				if at < blockSize {
					wantStamp(t, "one other byte", b, 0, 0, api.ErrCrc)
				} else {
					wantStamp(t, "one other byte behind the block", b, 3, 8, api.OK)
				}
			}
		}
	}
}

// A stamp is that of a right block of either kind, though no entry stands there.
func TestStampOfRightBlocks(t *testing.T) {
	for _, kind := range []byte{1, 2} {
		for count := 1; count <= room; count++ {
			for _, n := range []uint64{0, 1, 0x0102030405060708, math.MaxUint64} {
				for _, epoch := range []uint32{0, 1, 0x090a0b0c, math.MaxUint32} {
					b := toldBlock(toldAhead(kind, count, mixed(count, count)), epoch, n)
					wantStamp(t, "a right block", b, epoch, n, api.OK)
					wantStamp(t, "a right block, and others", slices.Concat(b, mixed(70, 1)), epoch, n, api.OK)
				}
			}
		}
	}
}

func TestStampOfEachBlock(t *testing.T) {
	for _, x := range samples() {
		for b := put(t, x); len(b) > 0; b = b[blockSize:] {
			wantStamp(t, "an entry's block", b, x.Epoch, x.N, api.OK)
		}
	}
}

// alter makes other blocks of those of an entry, most of them with checks that
// are right: what is asked for is told by toldRead.
func alter(r *rand.Rand, b []byte) []byte {
	b = bytes.Clone(b)
	at := r.Intn(len(b)/blockSize) * blockSize
	block := b[at : at+blockSize]
	places := []int{0, 1, 2, 5, 6, 7, 8, 9, 46, 47, 52, 55, 56, 63}
	block[places[r.Intn(len(places))]] += byte(r.Intn(5)) - 2
	if r.Intn(4) == 0 {
		block[r.Intn(blockSize)] ^= byte(r.Intn(256))
	}
	if r.Intn(8) > 0 {
		copy(block, toldBlock(bytes.Clone(block[:48]), uint32(value(block[52:56])), value(block[56:])))
	}
	if r.Intn(4) == 0 {
		b = b[:r.Intn(len(b)+1)]
	}
	return b
}

func TestReadOfAlteredBlocks(t *testing.T) {
	r := rand.New(rand.NewSource(14))
	var good int
	for range 30000 {
		epoch := uint32(r.Intn(3) + 1)
		x := entry.Entry{Epoch: epoch, Prev: uint32(r.Intn(int(epoch) + 1)), N: uint64(r.Intn(3)), Bytes: mixed(r.Intn(140), r.Intn(9))}
		b := alter(r, slices.Concat(put(t, x), put(t, x)))
		wantRead(t, "altered blocks", b)
		if _, _, e := toldRead(b); e == api.OK {
			good++
		}
	}
	if good < 1000 || good > 29000 {
		t.Errorf("%d of 30000 are entries", good)
	}
}

func TestReadOfAnyBytes(t *testing.T) {
	r := rand.New(rand.NewSource(15))
	for range 2000 {
		wantRead(t, "any bytes", mixed(r.Intn(300), r.Int()))
	}
}

// P14.3

func TestNext(t *testing.T) {
	for i, x := range []struct {
		a, b entry.Entry
		want bool
	}{
		{entry.Entry{Epoch: 1, N: 0}, entry.Entry{Epoch: 1, N: 1, Prev: 1}, true},
		{entry.Entry{Epoch: 1, N: 0}, entry.Entry{Epoch: 9, N: 1, Prev: 1}, true},
		{entry.Entry{Epoch: 3, N: 7, Prev: 2}, entry.Entry{Epoch: 3, N: 8, Prev: 3}, true},
		{entry.Entry{Epoch: 3, N: 7, Bytes: []byte{1}}, entry.Entry{Epoch: 4, N: 8, Prev: 3, Bytes: []byte{2}}, true},
		{entry.Entry{Epoch: 3, N: 7}, entry.Entry{Epoch: 3, N: 7, Prev: 3}, false},
		{entry.Entry{Epoch: 3, N: 7}, entry.Entry{Epoch: 3, N: 9, Prev: 3}, false},
		{entry.Entry{Epoch: 3, N: 7}, entry.Entry{Epoch: 3, N: 6, Prev: 3}, false},
		{entry.Entry{Epoch: 3, N: 7}, entry.Entry{Epoch: 3, N: 8, Prev: 2}, false},
		{entry.Entry{Epoch: 3, N: 7}, entry.Entry{Epoch: 4, N: 8, Prev: 4}, false},
		{entry.Entry{Epoch: 3, N: 7, Prev: 2}, entry.Entry{Epoch: 4, N: 8, Prev: 2}, false},
		{entry.Entry{Epoch: 3, N: 7}, entry.Entry{Epoch: 2, N: 8, Prev: 3}, false},
		{entry.Entry{Epoch: 3, N: 7}, entry.Entry{Epoch: 2, N: 8, Prev: 2}, false},
		{entry.Entry{Epoch: 1, N: math.MaxUint64 - 1}, entry.Entry{Epoch: 1, N: math.MaxUint64, Prev: 1}, true},
		{entry.Entry{Epoch: 1, N: math.MaxUint64}, entry.Entry{Epoch: 1, N: 0, Prev: 1}, false},
		{entry.Entry{Epoch: 1, N: math.MaxUint64}, entry.Entry{Epoch: 1, N: math.MaxUint64, Prev: 1}, false},
		{entry.Entry{Epoch: 1, N: 0}, entry.Entry{Epoch: 1, N: 0, Prev: 1}, false},
		{entry.Entry{Epoch: math.MaxUint32, N: 4}, entry.Entry{Epoch: math.MaxUint32, N: 5, Prev: math.MaxUint32}, true},
		{entry.Entry{Epoch: math.MaxUint32, N: 4}, entry.Entry{N: 5, Prev: math.MaxUint32}, false},
	} {
		if got := entry.Next(x.a, x.b); got != x.want {
			t.Errorf("%d: Next of %v, %v: %v", i, x.a, x.b, got)
		}
	}
}

// chain are entries that follow one another, of those lengths and epochs.
func chain(n uint64, prev uint32, epochs []uint32, lengths []int) []entry.Entry {
	var l []entry.Entry
	for i, epoch := range epochs {
		l = append(l, entry.Entry{Epoch: epoch, N: n + uint64(i), Prev: prev, Bytes: mixed(lengths[i], i)})
		prev = epoch
	}
	return l
}

// laid are the blocks of entries, one behind the other.
func laid(t *testing.T, l []entry.Entry) []byte {
	t.Helper()
	var b []byte
	for _, x := range l {
		b = append(b, put(t, x)...)
	}
	return b
}

func wantScan(t *testing.T, what string, b []byte, first entry.Entry, want []entry.Entry) {
	t.Helper()
	if got := entry.Scan(b, first); !slices.EqualFunc(got, want, same) {
		t.Errorf("Scan of %s: %v, not %v", what, got, want)
	}
}

func TestScanOfNothing(t *testing.T) {
	first := entry.Entry{Epoch: 1}
	wantScan(t, "nil", nil, first, nil)
	wantScan(t, "too few bytes", make([]byte, 63), first, nil)
	wantScan(t, "noughts", make([]byte, 640), first, nil)
	wantScan(t, "any bytes", mixed(640, 1), first, nil)
	wantScan(t, "an entry behind noughts", slices.Concat(make([]byte, 64), put(t, first)), first, nil)
	wantScan(t, "an entry at another place", put(t, first)[1:], first, nil)
}

// first has but a number, Prev, and an epoch that tell what stands first.
func TestScanAsksForTheFirst(t *testing.T) {
	x := entry.Entry{Epoch: 5, N: 9, Prev: 3, Bytes: []byte{1, 2}}
	b := put(t, x)
	all := []entry.Entry{x}
	for _, c := range []struct {
		first entry.Entry
		want  []entry.Entry
	}{
		{entry.Entry{Epoch: 5, N: 9, Prev: 3}, all},
		{entry.Entry{Epoch: 5, N: 9, Prev: 3, Bytes: make([]byte, 5000)}, all},
		{entry.Entry{Epoch: 4, N: 9, Prev: 3}, all},
		{entry.Entry{Epoch: 1, N: 9, Prev: 3}, all},
		{entry.Entry{Epoch: 0, N: 9, Prev: 3}, all},
		{entry.Entry{Epoch: 6, N: 9, Prev: 3}, nil},
		{entry.Entry{Epoch: math.MaxUint32, N: 9, Prev: 3}, nil},
		{entry.Entry{Epoch: 5, N: 8, Prev: 3}, nil},
		{entry.Entry{Epoch: 5, N: 10, Prev: 3}, nil},
		{entry.Entry{Epoch: 5, N: 9, Prev: 2}, nil},
		{entry.Entry{Epoch: 5, N: 9, Prev: 4}, nil},
		{entry.Entry{}, nil},
	} {
		wantScan(t, "one entry", b, c.first, c.want)
	}
}

func TestScanGoesOn(t *testing.T) {
	l := chain(7, 2, []uint32{2, 2, 3, 3, 9, 9}, []int{0, 300, 40, 41, mostBytes, 7})
	first := entry.Entry{Epoch: 1, N: 7, Prev: 2}
	wantScan(t, "a chain", laid(t, l), first, l)
	wantScan(t, "a chain, and noughts", slices.Concat(laid(t, l), make([]byte, 200)), first, l)
	wantScan(t, "a chain, and any bytes", slices.Concat(laid(t, l), mixed(200, 1)), first, l)
	wantScan(t, "a chain, and a block's first bytes", slices.Concat(laid(t, l), laid(t, l)[:63]), first, l)
	wantScan(t, "a chain, twice", slices.Concat(laid(t, l), laid(t, l)), first, l)
	wantScan(t, "a chain without its first one", laid(t, l[1:]), first, nil)
	wantScan(t, "a chain without its second one", slices.Concat(laid(t, l[:1]), laid(t, l[2:])), first, l[:1])
	last := entry.Entry{Epoch: 4, N: math.MaxUint64, Prev: 4, Bytes: []byte{1}}
	wrapped := entry.Entry{Epoch: 4, N: 0, Prev: 4, Bytes: []byte{2}}
	wantScan(t, "the greatest number, and 0", laid(t, []entry.Entry{last, wrapped}), last, []entry.Entry{last})
}

func TestScanStops(t *testing.T) {
	l := chain(7, 2, []uint32{3, 5, 5}, []int{10, 50, 20})
	first := l[0]
	for what, change := range map[string]func(x *entry.Entry){
		"another number":   func(x *entry.Entry) { x.N++ },
		"the same number":  func(x *entry.Entry) { x.N-- },
		"another Prev":     func(x *entry.Entry) { x.Prev-- },
		"a lesser Prev":    func(x *entry.Entry) { x.Prev = 2 },
		"Prev as its own":  func(x *entry.Entry) { x.Prev = x.Epoch },
		"a Prev of nought": func(x *entry.Entry) { x.Prev = 0 },
	} {
		c := slices.Clone(l)
		change(&c[1])
		wantScan(t, what, laid(t, c), first, c[:1])
	}
	for at := len(put(t, l[0])); at < len(laid(t, l)); at++ {
		b := laid(t, l)
		b[at] ^= 4
		want := l[:1]
		if at >= len(laid(t, l[:2])) {
			want = l[:2]
		}
		wantScan(t, "a chain with another byte", b, first, want)
	}
}

// An epoch is held against the one ahead, not against first's; one that is below
// that has a Prev above it, so that no entry stands there.
func TestScanHoldsEpochsAgainstTheOneAhead(t *testing.T) {
	first := entry.Entry{Epoch: 2, Prev: 1}
	up := chain(0, 1, []uint32{4, 6}, []int{1, 1})
	wantScan(t, "rising epochs", laid(t, up), first, up)
	down := slices.Concat(put(t, up[0]), told(entry.Entry{Epoch: 3, N: 1, Prev: 4}))
	wantScan(t, "an epoch that falls", down, first, up[:1])
}

// P14.4

// spoil overwrites all of a slice's memory, what lies behind its length too.
func spoil(b []byte) {
	b = b[:cap(b)]
	for i := range b {
		b[i] ^= 0xee
	}
}

func TestOnlyRead(t *testing.T) {
	for _, n := range []int{0, 1, 40, 41, 86, 200, mostBytes} {
		x := entry.Entry{Epoch: 4, N: 2, Prev: 1, Bytes: mixed(n+90, n)[:n]}
		data := bytes.Clone(x.Bytes[:n+90])
		b := slices.Concat(told(x), mixed(90, 5))
		part := b[:len(b)-90]
		kept := bytes.Clone(b)
		spoil(put(t, x))
		got, _, _ := entry.Read(part)
		_ = append(got.Bytes, 1, 2, 3, 4, 5, 6)
		spoil(got.Bytes)
		entry.Stamp(part)
		for _, y := range entry.Scan(part, x) {
			_ = append(y.Bytes, 1, 2, 3, 4, 5, 6)
			spoil(y.Bytes)
		}
		entry.Read(part[:len(part)-1])
		entry.Next(x, x)
		if !bytes.Equal(b, kept) || !bytes.Equal(x.Bytes[:n+90], data) {
			t.Errorf("%d bytes: what was handed in is changed", n)
		}
	}
}

func TestAnswersAreNew(t *testing.T) {
	l := chain(3, 1, []uint32{1, 2, 2}, []int{5, 100, 41})
	b := laid(t, l)
	first, _, _ := entry.Read(b)
	again, _, _ := entry.Read(b)
	scanned, other := entry.Scan(b, l[0]), entry.Scan(b, l[0])
	row := put(t, l[0])
	spoil(put(t, l[0]))
	spoil(first.Bytes)
	for _, x := range other {
		spoil(x.Bytes)
	}
	spoil(b)
	if !same(again, l[0]) || !slices.EqualFunc(scanned, l, same) || !bytes.Equal(row, told(l[0])) {
		t.Error("an answer changed with another one, or with what was handed in")
	}
	spoil(scanned[0].Bytes)
	spoil(scanned[2].Bytes)
	if !same(scanned[1], l[1]) {
		t.Error("entries of one answer share memory")
	}
}

// P14.5

func TestThereAndBack(t *testing.T) {
	for i, x := range samples() {
		b := put(t, x)
		for _, behind := range [][]byte{nil, make([]byte, 100), mixed(100, i), b, bytes.Repeat([]byte{0xff}, 65)} {
			y, n, e := entry.Read(slices.Concat(b, behind))
			if !same(x, y) || n != entry.Blocks(len(x.Bytes)) || n*blockSize != len(b) || e != api.OK {
				t.Errorf("Read of Put of epoch %d, number %d, Prev %d, %d bytes: %v, %d, %v", x.Epoch, x.N, x.Prev, len(x.Bytes), y, n, e)
			}
		}
	}
}

// beds are other bytes, so many, in whose blocks x's stamp does not stand, but
// some that are much like it.
func beds(t *testing.T, x entry.Entry, size int) [][]byte {
	t.Helper()
	like := func(change func(y *entry.Entry)) []byte {
		y := x
		change(&y)
		return put(t, y)
	}
	n := len(x.Bytes)
	return [][]byte{
		make([]byte, size),
		mixed(size, 1),
		bytes.Repeat([]byte{0xff}, size),
		like(func(y *entry.Entry) { y.N++ }),
		like(func(y *entry.Entry) { y.N += 1 << 56 }),
		like(func(y *entry.Entry) { y.Epoch++ }),
		like(func(y *entry.Entry) { y.Epoch += 1 << 24 }),
		like(func(y *entry.Entry) { y.Epoch, y.Bytes = y.Epoch+1, mixed(n, 99) }),
		like(func(y *entry.Entry) { y.N, y.Bytes = y.N-1, make([]byte, n) }),
	}
}

// Whatever bytes are overwritten, up to wherever: what stands there with the
// stamp is the entry, all of whose blocks are as if they were written.
func TestTornWrites(t *testing.T) {
	for _, n := range []int{0, 3, 40, 41, 86, 87, 130, 250} {
		x := entry.Entry{Epoch: 6, N: 1000, Prev: 5, Bytes: mixed(n, n)}
		b := put(t, x)
		for i, bed := range beds(t, x, len(b)) {
			var whole int
			for cut := 0; cut <= len(b); cut++ {
				torn := slices.Concat(b[:cut], bed[cut:])
				wantRead(t, "a torn write", torn)
				y, _, e := entry.Read(torn)
				if e != api.OK || y.Epoch != x.Epoch || y.N != x.N {
					continue
				}
				whole++
				if !same(x, y) || !bytes.Equal(torn, b) {
					t.Errorf("%d bytes, bed %d, cut at %d: %v", n, i, cut, y)
				}
			}
			if whole == 0 {
				t.Errorf("%d bytes, bed %d: all of the blocks are no entry", n, i)
			}
		}
	}
}

// What was cut tells the old entry, or the new one, or none, but no mixture.
func TestTornWritesOverAnEntry(t *testing.T) {
	for _, n := range []int{3, 41, 130} {
		old := entry.Entry{Epoch: 6, N: 1000, Prev: 5, Bytes: mixed(n, 1)}
		x := entry.Entry{Epoch: 7, N: 1001, Prev: 6, Bytes: mixed(n, 2)}
		was, b := put(t, old), put(t, x)
		for cut := 0; cut <= len(b); cut++ {
			y, _, e := entry.Read(slices.Concat(b[:cut], was[cut:]))
			if e == api.OK && !same(y, old) && !same(y, x) {
				t.Errorf("%d bytes, cut at %d: %v", n, cut, y)
			}
		}
	}
}

func TestScanOfCutChains(t *testing.T) {
	for _, l := range [][]entry.Entry{
		chain(0, 0, []uint32{1}, []int{0}),
		chain(0, 0, []uint32{1, 1, 1}, []int{0, 41, 40}),
		chain(math.MaxUint64-3, 7, []uint32{7, 8, 8, 20}, []int{100, 1, 0, 300}),
	} {
		b := laid(t, l)
		for cut := 0; cut <= len(b); cut++ {
			var want []entry.Entry
			for end := 0; len(want) < len(l); {
				end += len(put(t, l[len(want)]))
				if end > cut {
					break
				}
				want = l[:len(want)+1]
			}
			wantScan(t, "a chain that was cut", b[:cut], l[0], want)
			// Noughts in place of the rest may be what stood there: where a stamp ends
			// with them, it is as if they were written.
			if cut%blockSize <= 48 {
				wantScan(t, "a chain that ends with noughts", slices.Concat(b[:cut], make([]byte, len(b)-cut)), l[0], want)
			}
		}
	}
}
