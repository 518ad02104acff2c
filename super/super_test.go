package super_test

import (
	"bytes"
	"math"
	"math/rand"
	"slices"
	"testing"

	"octroi/api"
	"octroi/disk"
	"octroi/super"
)

// The chapter's sizes, as numbers of the tests' own.
const (
	slotSize = 64
	room     = 128
)

// digits is how v stands in so many bytes, the greatest first.
func digits(v uint64, size int) []byte {
	b := make([]byte, size)
	for i := size - 1; i >= 0; i-- {
		b[i] = byte(v % 256)
		v /= 256
	}
	return b
}

// value is what bytes stand for.
func value(b []byte) uint64 {
	var v uint64
	for _, x := range b {
		v = v*256 + uint64(x)
	}
	return v
}

// toldCheck is the check of bytes as chapter 2 tells it, digit by digit.
func toldCheck(b []byte) uint32 {
	c := uint32(math.MaxUint32)
	for _, x := range b {
		c ^= uint32(x)
		for range 8 {
			if fell := c % 2; fell == 1 {
				c = c/2 ^ 0xEDB88320
			} else {
				c /= 2
			}
		}
	}
	return ^c
}

// toldAhead is what stands ahead of a slot's check, with noughts as they should
// be, or not.
func toldAhead(s super.Super, serial uint64, noughts []byte) []byte {
	return slices.Concat(digits(serial, 8), digits(uint64(s.Epoch), 4), digits(uint64(s.Mark.Block), 4),
		digits(s.Mark.N, 8), digits(uint64(s.Mark.Prev), 4), digits(uint64(s.Mark.Seq), 4), noughts)
}

// toldSlot is a slot of these 52 bytes and the serial at its end, with the check
// that it should have, whatever the bytes are.
func toldSlot(ahead []byte, end uint64) []byte {
	return slices.Concat(ahead, digits(uint64(toldCheck(ahead)), 4), digits(end, 8))
}

// told is a superblock's slot as the section 'Words' tells it.
func told(s super.Super, serial uint64) []byte {
	return toldSlot(toldAhead(s, serial, make([]byte, 20)), serial)
}

// noughts tells whether there is nothing else.
func noughts(b []byte) bool { return bytes.Count(b, []byte{0}) == len(b) }

// toldRight tells whether a slot is right, part by part.
func toldRight(b []byte) bool {
	serial, end := value(b[:8]), value(b[56:64])
	return serial == end && serial > 0 && noughts(b[32:52]) && value(b[52:56]) == uint64(toldCheck(b[:52]))
}

// toldParse is the superblock of a slot, and its serial.
func toldParse(b []byte) (super.Super, uint64, api.Errno) {
	switch {
	case len(b) < slotSize:
		return super.Super{}, 0, api.ErrShort
	case noughts(b[:slotSize]):
		return super.Super{}, 0, api.ErrBlank
	case !toldRight(b[:slotSize]):
		return super.Super{}, 0, api.ErrCrc
	}
	m := super.Mark{Block: uint32(value(b[12:16])), N: value(b[16:24]), Prev: uint32(value(b[24:28])), Seq: uint32(value(b[28:32]))}
	return super.Super{Epoch: uint32(value(b[8:12])), Mark: m}, value(b[:8]), api.OK
}

// toldFind is the superblock of the slot that counts of 128 bytes, and which
// one that is.
func toldFind(b []byte) (super.Super, int, api.Errno) {
	first, one, e := toldParse(b[:slotSize])
	second, two, f := toldParse(b[slotSize:room])
	switch {
	case e == api.ErrBlank && f == api.ErrBlank:
		return super.Super{}, 0, api.ErrBlank
	case e != api.OK && f != api.OK:
		return super.Super{}, 0, api.ErrSuper
	case f == api.OK && (e != api.OK || two > one):
		return second, 1, api.OK
	}
	return first, 0, api.OK
}

// toldWrite is where a superblock is written, and with which serial.
func toldWrite(b []byte) (at int, serial uint64, e api.Errno) {
	for _, end := range []int{0, 56, 64, 120} {
		serial = max(serial, value(b[end:end+8]))
	}
	if serial == math.MaxUint64 {
		return 0, 0, api.ErrSuper
	}
	if _, counts, e := toldFind(b); e == api.OK && counts == 0 {
		at = slotSize
	}
	return at, serial + 1, api.OK
}

// mixed are n bytes, other ones for each seed.
func mixed(n, seed int) []byte {
	b := make([]byte, n)
	rand.New(rand.NewSource(int64(seed))).Read(b)
	return b
}

// spoil changes all bytes of a list, and what lies behind its length.
func spoil(b []byte) {
	b = b[:cap(b)]
	for i := range b {
		b[i] ^= 0xFF
	}
}

// some is a superblock with all parts unlike one another, other ones for each i.
func some(i int) super.Super {
	n := uint32(i) * 0x01000100
	return super.Super{Epoch: 0x01020304 + n, Mark: super.Mark{Block: 0x11121314 + n, N: 0x2122232425262728 + uint64(i)<<40, Prev: 0x31323334 + n, Seq: 0x41424344 + n}}
}

// samples are superblocks with each part at its ends.
func samples() []super.Super {
	const most = math.MaxUint32
	l := []super.Super{{}, some(0), some(1), {Epoch: most, Mark: super.Mark{Block: most, N: math.MaxUint64, Prev: most, Seq: most}}}
	for _, v := range []uint32{1, 255, 256, 1 << 16, 1 << 24, most} {
		l = append(l, super.Super{Epoch: v}, super.Super{Mark: super.Mark{Block: v}}, super.Super{Mark: super.Mark{Prev: v}},
			super.Super{Mark: super.Mark{Seq: v}}, super.Super{Mark: super.Mark{N: uint64(v)}}, super.Super{Mark: super.Mark{N: uint64(v) << 32}})
	}
	return l
}

// serials are those at and around their ends, but for 0.
func serials() []uint64 {
	return []uint64{1, 2, 255, 256, 0x0102030405060708, 1 << 32, 1 << 63, math.MaxUint64 - 1, math.MaxUint64}
}

// wantParse holds what is parsed against what is told.
func wantParse(t *testing.T, what string, b []byte) {
	t.Helper()
	want, number, err := toldParse(b)
	s, serial, e := super.Parse(b)
	if s != want || serial != number || e != err {
		t.Errorf("Parse of %s: %v, %d, %v, not %v, %d, %v", what, s, serial, e, want, number, err)
	}
}

// wantNone asks for an error, and nothing beside it.
func wantNone(t *testing.T, what string, b []byte, want api.Errno) {
	t.Helper()
	s, serial, e := super.Parse(b)
	if e != want || serial != 0 || s != (super.Super{}) {
		t.Errorf("Parse of %s: %v, %d, %v, not %v", what, s, serial, e, want)
	}
}

// wantFind holds what is found against a superblock, and its slot.
func wantFind(t *testing.T, what string, d *disk.Disk, s super.Super, slot int, err api.Errno) {
	t.Helper()
	got, at, e := super.Find(d)
	if got != s || at != slot || e != err {
		t.Errorf("Find, %s: %v, %d, %v, not %v, %d, %v", what, got, at, e, s, slot, err)
	}
}

func write(t *testing.T, d *disk.Disk, s super.Super) {
	t.Helper()
	if e := super.Write(d, s); e != api.OK {
		t.Fatalf("Write: %v", e)
	}
}

func sync(t *testing.T, d *disk.Disk) {
	t.Helper()
	if e := d.Sync(); e != api.OK {
		t.Fatal(e)
	}
}

func blank(t *testing.T, size int) *disk.Disk {
	t.Helper()
	d, e := disk.New(size)
	if e != api.OK {
		t.Fatal(e)
	}
	return d
}

// laid is a disk of so many bytes, of which the first ones are these, durable.
func laid(t *testing.T, size int, b []byte) *disk.Disk {
	t.Helper()
	d := blank(t, size)
	if e := d.Write(0, b); e != api.OK {
		t.Fatal(e)
	}
	sync(t, d)
	return d
}

// read are all of a disk's bytes, as they are read.
func read(t *testing.T, d *disk.Disk) []byte {
	t.Helper()
	b, e := d.Read(0, d.Size())
	if e != api.OK {
		t.Fatal(e)
	}
	return b
}

func TestExamples(t *testing.T) {
	wantFind(t, "a new disk", blank(t, 200), super.Super{}, 0, api.ErrBlank)
	wantFind(t, "100 bytes", blank(t, 100), super.Super{}, 0, api.ErrDisk)
	d := blank(t, 128)
	one, two := super.Super{Epoch: 1}, super.Super{Epoch: 2}
	write(t, d, one)
	wantFind(t, "epoch 1", d, one, 0, api.OK)
	sync(t, d)
	write(t, d, two)
	wantFind(t, "epoch 2", d, two, 1, api.OK)
	if n := d.Crash(); n != 1 {
		t.Errorf("Crash: %d", n)
	}
	wantFind(t, "epoch 2 lost", d, one, 0, api.OK)
}

func TestSizes(t *testing.T) {
	if super.Size != slotSize || super.Room != room {
		t.Errorf("%d, %d", super.Size, super.Room)
	}
}

// P15.1

func TestPutAsTold(t *testing.T) {
	for _, s := range samples() {
		for _, serial := range append(serials(), 0) {
			if b := super.Put(s, serial); !bytes.Equal(b, told(s, serial)) {
				t.Errorf("Put of %v, %d: %v, not %v", s, serial, b, told(s, serial))
			}
		}
	}
}

// The bytes of one slot, one by one.
func TestPutOfOne(t *testing.T) {
	s := super.Super{Epoch: 0x01020304, Mark: super.Mark{Block: 0x05060708, N: 0x090A0B0C0D0E0F10, Prev: 0x11121314, Seq: 0x15161718}}
	b := super.Put(s, 0x2122232425262728)
	if len(b) != slotSize {
		t.Fatalf("%d bytes", len(b))
	}
	for i, x := range b[8:32] {
		if int(x) != i+1 {
			t.Errorf("byte %d: %d", i+8, x)
		}
	}
	serial := []byte{0x21, 0x22, 0x23, 0x24, 0x25, 0x26, 0x27, 0x28}
	if !bytes.Equal(b[:8], serial) || !bytes.Equal(b[56:], serial) || !noughts(b[32:52]) {
		t.Errorf("%v", b)
	}
}

func TestThereAndBack(t *testing.T) {
	for i, s := range samples() {
		for _, serial := range serials() {
			for _, behind := range [][]byte{nil, make([]byte, 64), mixed(100, i), bytes.Repeat([]byte{255}, 3)} {
				got, number, e := super.Parse(slices.Concat(super.Put(s, serial), behind))
				if got != s || number != serial || e != api.OK {
					t.Errorf("Parse of Put of %v, %d: %v, %d, %v", s, serial, got, number, e)
				}
			}
		}
	}
}

func TestParseOfShortBytes(t *testing.T) {
	wantNone(t, "nil", nil, api.ErrShort)
	whole := super.Put(some(0), 7)
	for n := range slotSize {
		// What lies behind the length is no part of it.
		wantNone(t, "the first bytes of a slot", whole[:n], api.ErrShort)
		wantNone(t, "noughts", make([]byte, n), api.ErrShort)
	}
}

func TestParseOfBlanks(t *testing.T) {
	wantNone(t, "a blank slot", make([]byte, slotSize), api.ErrBlank)
	wantNone(t, "a blank slot, and a right one", slices.Concat(make([]byte, slotSize), super.Put(some(0), 7)), api.ErrBlank)
	for i := range slotSize {
		b := make([]byte, slotSize)
		b[i] = 1
		wantNone(t, "noughts but for one", b, api.ErrCrc)
	}
	b := make([]byte, slotSize+1)
	b[slotSize] = 1
	wantNone(t, "noughts but for one behind the slot", b, api.ErrBlank)
}

// Each of these slots has its check, or not, but is not right.
func TestSlotsThatAreNotRight(t *testing.T) {
	s := some(0)
	ahead := toldAhead(s, 7, make([]byte, 20))
	good := toldSlot(ahead, 7)
	if _, _, e := super.Parse(good); e != api.OK {
		t.Fatal(e)
	}
	check := good[52:56]
	bad := map[string][]byte{
		"the serial 0":                     told(s, 0),
		"the serial 0 of nothing":          told(super.Super{}, 0),
		"a greater serial at the end":      toldSlot(ahead, 8),
		"a lesser serial at the end":       toldSlot(ahead, 6),
		"a serial at the end, far off":     toldSlot(ahead, 7+1<<56),
		"no serial at the end":             toldSlot(ahead, 0),
		"no serial at the beginning":       toldSlot(toldAhead(s, 0, make([]byte, 20)), 7),
		"no check":                         slices.Concat(ahead, make([]byte, 4), digits(7, 8)),
		"a check, the least byte first":    slices.Concat(ahead, []byte{check[3], check[2], check[1], check[0]}, digits(7, 8)),
		"a check of the parts alone":       slices.Concat(ahead, digits(uint64(toldCheck(ahead[:32])), 4), digits(7, 8)),
		"a check that has no first serial": slices.Concat(ahead, digits(uint64(toldCheck(ahead[8:])), 4), digits(7, 8)),
		"a check of the end, too":          slices.Concat(ahead, digits(uint64(toldCheck(slices.Concat(ahead, digits(7, 8)))), 4), digits(7, 8)),
		"a slot, one byte further":         slices.Concat([]byte{0}, good[:63]),
	}
	for i := range 20 {
		rest := make([]byte, 20)
		rest[i] = 1
		bad["a byte behind the parts, "+string(rune('a'+i))] = toldSlot(toldAhead(s, 7, rest), 7)
	}
	for what, b := range bad {
		wantNone(t, what, b, api.ErrCrc)
		wantNone(t, what+", and a right one", slices.Concat(b, good), api.ErrCrc)
	}
}

func TestEachOtherByteIsRefused(t *testing.T) {
	whole := super.Put(some(0), 0x0102030405060708)
	for at := range whole {
		for x := 1; x < 256; x++ {
			b := bytes.Clone(whole)
			b[at] ^= byte(x)
			wantNone(t, "one other byte", b, api.ErrCrc)
		}
	}
}

func TestParseOfAlteredSlots(t *testing.T) {
	r := rand.New(rand.NewSource(15))
	var good int
	for range 20000 {
		b := alter(r, super.Put(some(r.Intn(9)), uint64(r.Intn(4))))
		wantParse(t, "an altered slot", b)
		if _, _, e := toldParse(b); e == api.OK {
			good++
		}
	}
	if good < 1000 || good > 19000 {
		t.Errorf("%d of 20000 are right", good)
	}
}

// alter makes another slot of one, most often with a check that is right: what
// is asked for is told by toldParse.
func alter(r *rand.Rand, b []byte) []byte {
	b = bytes.Clone(b)
	places := []int{0, 7, 8, 15, 23, 24, 31, 32, 51, 52, 56, 63}
	for range r.Intn(3) {
		b[places[r.Intn(len(places))]] += byte(r.Intn(3)) - 1
	}
	if r.Intn(8) > 0 {
		copy(b[52:], digits(uint64(toldCheck(b[:52])), 4))
	}
	if r.Intn(4) > 0 {
		copy(b[56:], b[:8])
	}
	return b
}

// P15.2, P15.3

func TestNoDisk(t *testing.T) {
	wantFind(t, "nil", nil, super.Super{}, 0, api.ErrNil)
	if e := super.Write(nil, some(0)); e != api.ErrNil {
		t.Errorf("Write of nil: %v", e)
	}
	wantFind(t, "a disk made by hand", &disk.Disk{}, super.Super{}, 0, api.ErrDisk)
	if e := super.Write(&disk.Disk{}, some(0)); e != api.ErrDisk {
		t.Errorf("Write of a disk made by hand: %v", e)
	}
}

// Both ask for two slots, whatever stands on what there is.
func TestDisksThatAreTooSmall(t *testing.T) {
	full := slices.Concat(told(some(0), 7), told(some(1), math.MaxUint64))
	for size := range room {
		for _, d := range []*disk.Disk{blank(t, size), laid(t, size, full[:size])} {
			wantFind(t, "too small", d, super.Super{}, 0, api.ErrDisk)
			before := d.Copy()
			if e := super.Write(d, some(0)); e != api.ErrDisk || !disk.Same(d, before) {
				t.Errorf("Write of %d bytes: %v", size, e)
			}
		}
	}
}

// slots are some of each kind, with serials that are greater, lesser and alike.
func slots() [][]byte {
	l := [][]byte{make([]byte, slotSize), mixed(slotSize, 1), bytes.Repeat([]byte{255}, slotSize), told(some(9), 0)}
	for i, serial := range []uint64{1, 2, 3, 255, 256, 1 << 32, math.MaxUint64 - 1, math.MaxUint64} {
		right := told(some(i), serial)
		spoilt := bytes.Clone(right)
		spoilt[20] ^= 1
		torn := slices.Concat(right[:30], told(some(i+1), serial/2)[30:])
		cut := slices.Concat(make([]byte, 56), right[56:])
		l = append(l, right, told(some(i+20), serial), spoilt, torn, cut, slices.Concat(right[:8], make([]byte, 56)))
	}
	return l
}

// Of all pairs of slots, on disks of the least size, and of others: what is
// found, and what is written, and where.
func TestAllPairsOfSlots(t *testing.T) {
	var errors [api.ErrSuper + 1]int
	for i, a := range slots() {
		for j, b := range slots() {
			both := slices.Concat(a, b)
			size := room + i*j%5
			d := laid(t, size, slices.Concat(both, bytes.Repeat([]byte{9}, size-room)))
			s, slot, err := toldFind(both)
			wantFind(t, "two slots", d, s, slot, err)
			errors[err]++
			wantWrite(t, d, both, some(50+i))
		}
	}
	if errors[api.OK] < 500 || errors[api.ErrBlank] != 1 || errors[api.ErrSuper] < 500 {
		t.Errorf("%v", errors)
	}
}

// wantWrite writes a superblock on a disk without unsynced writes, whose slots
// are told.
func wantWrite(t *testing.T, d *disk.Disk, both []byte, s super.Super) {
	t.Helper()
	before := d.Copy()
	at, serial, err := toldWrite(both)
	if e := super.Write(d, s); e != err {
		t.Errorf("Write: %v, not %v", e, err)
	}
	if err != api.OK {
		if !disk.Same(d, before) {
			t.Error("Write: an error, and the disk is another one")
		}
		return
	}
	l := d.Unsynced()
	if len(l) != 1 || l[0].At != at || !bytes.Equal(l[0].Data, told(s, serial)) {
		t.Fatalf("Write: %v, not %v at %d", l, told(s, serial), at)
	}
	wantFind(t, "just written", d, s, at/slotSize, api.OK)
	d.Crash()
	if !disk.Same(d, before) {
		t.Error("Write: the disk is another one, the write lost")
	}
}

// What is found is what is read: unsynced writes count, and the later one of a
// byte; durable bytes below them don't.
func TestFindOfUnsyncedWrites(t *testing.T) {
	d := laid(t, room, slices.Concat(told(some(0), 7), told(some(1), 6)))
	if e := d.Write(slotSize, told(some(2), 8)); e != api.OK {
		t.Fatal(e)
	}
	wantFind(t, "an unsynced slot", d, some(2), 1, api.OK)
	// It makes a 9 of the serial at the slot's end, so that 10 is the next one.
	if e := d.Write(slotSize+63, []byte{9}); e != api.OK {
		t.Fatal(e)
	}
	wantFind(t, "an unsynced byte", d, some(0), 0, api.OK)
	if e := d.Write(0, make([]byte, slotSize)); e != api.OK {
		t.Fatal(e)
	}
	wantFind(t, "no slot is right", d, super.Super{}, 0, api.ErrSuper)
	write(t, d, some(3))
	wantFind(t, "written behind all else", d, some(3), 0, api.OK)
	if l := d.Unsynced(); len(l) != 4 || !bytes.Equal(l[3].Data, told(some(3), 10)) {
		t.Errorf("%v", l)
	}
}

// The greatest of the four serials is asked for, wherever it stands, and though
// no slot is right: none is used twice, and there is none behind the last.
func TestSerialsOfSpoiltSlots(t *testing.T) {
	for _, at := range []int{0, 56, 64, 120} {
		for _, serial := range []uint64{1, 2, 1 << 40, math.MaxUint64 - 1, math.MaxUint64} {
			for _, right := range [][]byte{make([]byte, room), slices.Concat(told(some(0), 1), told(some(1), 2))} {
				b := bytes.Clone(right)
				copy(b[at:], digits(serial, 8))
				wantWrite(t, laid(t, 300, b), b, some(4))
			}
		}
	}
	// Numbers that are no serial are not asked for.
	b := told(super.Super{Epoch: math.MaxUint32, Mark: super.Mark{Block: math.MaxUint32, N: math.MaxUint64}}, 3)
	d := laid(t, 200, slices.Concat(b, make([]byte, 64), bytes.Repeat([]byte{255}, 72)))
	wantWrite(t, d, read(t, d), some(4))
}

// Slots are written in turn, as long as each write is synced.
func TestTurns(t *testing.T) {
	d := laid(t, 200, slices.Concat(make([]byte, room), bytes.Repeat([]byte{7}, 72)))
	for i := range 50 {
		write(t, d, some(i))
		wantFind(t, "written", d, some(i), i%2, api.OK)
		sync(t, d)
		wantFind(t, "synced", d, some(i), i%2, api.OK)
		if b := read(t, d); !bytes.Equal(b[i%2*slotSize:][:slotSize], told(some(i), uint64(i+1))) || bytes.Count(b[room:], []byte{7}) != 72 {
			t.Errorf("%d: %v", i, b)
		}
	}
}

// The last serial is written once; behind it there is none.
func TestTheLastSerial(t *testing.T) {
	d := laid(t, room, slices.Concat(told(some(0), math.MaxUint64-2), told(some(1), math.MaxUint64-1)))
	write(t, d, some(2))
	sync(t, d)
	wantFind(t, "the last serial", d, some(2), 0, api.OK)
	before := d.Copy()
	for range 2 {
		if e := super.Write(d, some(3)); e != api.ErrSuper || !disk.Same(d, before) {
			t.Errorf("Write behind the last serial: %v", e)
		}
	}
	wantFind(t, "the last serial", d, some(2), 0, api.OK)
}

// P15.4

func TestWhatIsHandedInIsOnlyRead(t *testing.T) {
	row := slices.Concat(super.Put(some(0), 7), bytes.Repeat([]byte{9}, 10))
	was := bytes.Clone(row)
	for _, n := range []int{10, 64, 70} {
		super.Parse(row[:n])
		if !bytes.Equal(row, was) {
			t.Errorf("Parse of %d bytes changed them", n)
		}
	}
	d := laid(t, 200, slices.Concat(told(some(0), 7), told(some(1), 6)))
	write(t, d, some(2))
	before := d.Copy()
	super.Find(d)
	if !disk.Same(d, before) {
		t.Error("Find changed the disk")
	}
}

func TestAnswersAreNewMemory(t *testing.T) {
	a, b := super.Put(some(0), 7), super.Put(some(0), 7)
	spoil(a)
	if !bytes.Equal(b, told(some(0), 7)) || !bytes.Equal(super.Put(some(0), 7), b) {
		t.Error("an answer changed with another one")
	}
	s, serial, _ := super.Parse(b)
	spoil(b)
	if s != some(0) || serial != 7 {
		t.Error("an answer changed with what was handed in")
	}
}

// P15.5

// history is a disk, and what may be found there.
type history struct {
	d *disk.Disk
	// found is what was found ahead of the last write, err the error beside it.
	found super.Super
	err   api.Errno
	// synced tells whether a superblock was.
	synced bool
	writes int
}

// end ends a write by a sync, or by a crash with a fate, and holds what is
// found then against what may be.
func (h *history) end(t *testing.T, keep bool, f disk.Fate) {
	t.Helper()
	h.writes++
	s := some(h.writes)
	write(t, h.d, s)
	wantFind(t, "just written", h.d, s, h.slot(), api.OK)
	slot := h.d.Unsynced()[0]
	if keep {
		sync(t, h.d)
	} else if n := h.d.Crash(f); n != 1 {
		t.Fatalf("Crash: %d", n)
	}
	whole := bytes.Equal(read(t, h.d)[slot.At:][:slotSize], slot.Data)
	h.synced = h.synced || keep
	got, _, e := super.Find(h.d)
	switch {
	case whole:
		if got != s || e != api.OK {
			t.Fatalf("what stands whole is not found: %v, %v", got, e)
		}
	case keep:
		t.Fatal("what was synced does not stand whole")
	case got != h.found || h.err == api.OK && e != api.OK || h.synced && e != api.OK:
		t.Fatalf("behind a write with the fate %v: %v, %v, not %v, %v", f, got, e, h.found, h.err)
	}
	h.found, h.err = got, e
}

// slot is that of the unsynced write.
func (h *history) slot() int { return h.d.Unsynced()[0].At / slotSize }

func (h *history) copied() *history {
	c := *h
	c.d = h.d.Copy()
	return &c
}

// beds are disks on which nothing counts as yet.
func beds(t *testing.T) []*history {
	t.Helper()
	spoilt := told(some(90), 3)
	spoilt[30]++
	var l []*history
	for _, b := range [][]byte{nil, mixed(room, 3), make([]byte, room), slices.Concat(spoilt, told(some(91), 2)[:40]), spoilt} {
		copy(b, make([]byte, 2)) // else no serial might be left
		h := &history{d: laid(t, room, b)}
		h.found, _, h.err = super.Find(h.d)
		if h.err == api.OK {
			t.Fatal("something counts")
		}
		l = append(l, h)
	}
	return l
}

// Two writes, one behind the other, each one torn at each of its bytes, behind
// some that were synced; and one that is synced behind these.
func TestAllTornWrites(t *testing.T) {
	for _, bed := range beds(t) {
		for synced := range 3 {
			h := bed.copied()
			for range synced {
				h.end(t, true, disk.Fate{})
			}
			for first := -1; first <= slotSize+1; first++ {
				once := h.copied()
				once.end(t, false, disk.Fate{Kind: disk.Torn, At: first})
				for second := 0; second <= slotSize; second++ {
					twice := once.copied()
					twice.end(t, false, disk.Fate{Kind: disk.Torn, At: second})
					twice.end(t, true, disk.Fate{})
				}
			}
		}
	}
}

// Long runs of writes, syncs and crashes.
func TestLongRuns(t *testing.T) {
	r := rand.New(rand.NewSource(16))
	for range 60 {
		for _, h := range beds(t) {
			for range 40 {
				h.end(t, r.Intn(4) == 0, disk.Fate{Kind: r.Intn(5) - 1, At: r.Intn(slotSize + 4)})
			}
		}
	}
}

// Where serials go on to another byte, what is torn there is no mixture.
func TestTornSerials(t *testing.T) {
	for _, serial := range []uint64{254, 255, 256, 65534, 65535, 1<<32 - 1, 1<<32 - 2, 1<<56 - 1, math.MaxUint64 - 4} {
		for first := 0; first <= slotSize; first++ {
			for second := 0; second <= slotSize; second++ {
				h := &history{d: laid(t, room, slices.Concat(told(some(80), serial), told(some(81), serial-1))), found: some(80), synced: true}
				h.end(t, false, disk.Fate{Kind: disk.Torn, At: first})
				h.end(t, false, disk.Fate{Kind: disk.Torn, At: second})
			}
		}
	}
}
