package ipsix_test

import (
	"bytes"
	"fmt"
	"slices"
	"strconv"
	"testing"

	"octroi/api"
	"octroi/ipsix"
)

// kinds are those of headers of a chain.
var kinds = []uint8{0, 43, 44, 60}

// mixed is a row of n bytes without a plain order.
func mixed(n, seed int) []byte {
	b := make([]byte, n)
	x := uint32(seed)*2654435761 + 12345
	for i := range b {
		x = x*1664525 + 1013904223
		b[i] = byte(x >> 24)
	}
	return b
}

func address(seed int) [16]byte {
	return [16]byte(mixed(16, seed))
}

// plain is an ordinary header, with nothing behind it.
func plain() ipsix.Header {
	return ipsix.Header{Class: 0xa5, Flow: 0x12345, Next: 17, Hops: 64, Src: address(1), Dst: address(2)}
}

// headers are ordinary ones, and such as have each part at its bounds.
func headers() []ipsix.Header {
	l := []ipsix.Header{plain(), {}}
	for _, flow := range []uint32{0, 1, 255, 256, 65535, 65536, 1<<19 - 1, 1 << 19, 1<<20 - 2, 1<<20 - 1} {
		h := plain()
		h.Flow = flow
		l = append(l, h)
	}
	for _, length := range []uint16{1, 255, 256, 32768, 65535} {
		h := plain()
		h.Length = length
		l = append(l, h)
	}
	for _, x := range []uint8{0, 1, 15, 16, 127, 128, 240, 255} {
		h := plain()
		h.Class = x
		l = append(l, h)
		h = plain()
		h.Next = x
		l = append(l, h)
		h = plain()
		h.Hops = x
		l = append(l, h)
	}
	all := ipsix.Header{Class: 255, Flow: 1<<20 - 1, Length: 65535, Next: 255, Hops: 255}
	copy(all.Src[:], bytes.Repeat([]byte{255}, 16))
	all.Dst = all.Src
	return append(l, all)
}

// putTold is how a header stands, as the section 'Words' tells it: digit by
// digit.
func putTold(h ipsix.Header) []byte {
	text := fmt.Sprintf("0110%08b%020b%016b%08b%08b", h.Class, h.Flow, h.Length, h.Next, h.Hops)
	for _, x := range slices.Concat(h.Src[:], h.Dst[:]) {
		text += fmt.Sprintf("%08b", x)
	}
	var b []byte
	for i := 0; i < len(text); i += 8 {
		v, err := strconv.ParseUint(text[i:i+8], 2, 8)
		if err != nil {
			panic(err)
		}
		b = append(b, byte(v))
	}
	return b
}

// parseTold is what Parse answers, as P6.1 tells it.
func parseTold(b []byte) (ipsix.Header, api.Errno) {
	if len(b) < 40 {
		return ipsix.Header{}, api.ErrShort
	}
	if b[0] < 96 || b[0] >= 112 {
		return ipsix.Header{}, api.ErrVersion
	}
	h := ipsix.Header{Class: b[0]%16*16 + b[1]/16, Next: b[6], Hops: b[7]}
	h.Flow = uint32(b[1]%16)*65536 + uint32(b[2])*256 + uint32(b[3])
	h.Length = uint16(b[4])*256 + uint16(b[5])
	copy(h.Src[:], b[8:24])
	copy(h.Dst[:], b[24:40])
	return h, api.OK
}

func wantPut(t *testing.T, h ipsix.Header) {
	t.Helper()
	want := putTold(h)
	if b, e := ipsix.Put(h); e != api.OK || !bytes.Equal(b, want) {
		t.Errorf("Put(%v): % x, error %d, not % x", h, b, int(e), want)
	}
}

// wantParse holds what Parse answers against P6.1; its error, which the test
// knows as well, is held against both.
func wantParse(t *testing.T, what string, b []byte, want api.Errno) {
	t.Helper()
	told, e := parseTold(b)
	if e != want {
		t.Fatalf("%s: the test itself tells %d, not %d: % x", what, int(e), int(want), b)
	}
	if h, f := ipsix.Parse(b); f != want || h != told {
		t.Errorf("%s: Parse(% x): %v, error %d, not %v, error %d", what, b, h, int(f), told, int(want))
	}
}

// ext is a header of that kind with n bytes of data; of a fragment it is the
// first one.
func ext(kind uint8, n int) ipsix.Ext {
	x := ipsix.Ext{Kind: kind, Data: mixed(n, n+int(kind))}
	if kind == 44 {
		copy(x.Data, []byte{0, 1})
	}
	return x
}

// fragment is a header of the kind 44 that says so, with those two digits.
func fragment(offset uint16, digits byte, more bool, id uint32) ipsix.Ext {
	last := byte(0)
	if more {
		last = 1
	}
	return ipsix.Ext{Kind: 44, Data: []byte{
		byte(offset / 32), byte(offset%32)*8 + digits*2 + last,
		byte(id / (1 << 24)), byte(id / 65536), byte(id / 256), byte(id),
	}}
}

func chain(proto uint8, exts ...ipsix.Ext) ipsix.Chain {
	return ipsix.Chain{Exts: exts, Proto: proto}
}

// many is n headers of the kind 60, and the protocol 6.
func many(n int) ipsix.Chain {
	c := chain(6)
	for i := range n {
		c.Exts = append(c.Exts, ext(60, 6+i%3*8))
	}
	return c
}

// extTold tells whether a header of a chain is right, as 'Words' tells it.
func extTold(x ipsix.Ext) bool {
	switch x.Kind {
	case 44:
		return len(x.Data) == 6 && x.Data[1]/2%4 == 0
	case 0, 43, 60:
		for n := 6; n <= 2046; n += 8 {
			if len(x.Data) == n {
				return true
			}
		}
	}
	return false
}

// laterTold tells whether a header that is right is a fragment that is not the
// first one.
func laterTold(x ipsix.Ext) bool {
	return x.Kind == 44 && (x.Data[0] > 0 || x.Data[1] >= 8)
}

// rightTold tells whether a chain is right, as 'Words' tells it, part by part.
func rightTold(c ipsix.Chain) bool {
	if len(c.Exts) > 16 || slices.ContainsFunc(c.Exts, func(x ipsix.Ext) bool { return !extTold(x) }) {
		return false
	}
	n := len(c.Exts)
	ends := n > 0 && laterTold(c.Exts[n-1])
	for i, x := range c.Exts {
		if x.Kind == 0 && i > 0 || laterTold(x) && i < n-1 {
			return false
		}
	}
	return ends || !slices.Contains(kinds, c.Proto)
}

// putChainTold is how the headers of a chain that is right stand, and what
// comes first: from the last header on to the first.
func putChainTold(c ipsix.Chain) ([]byte, uint8) {
	var b []byte
	next := c.Proto
	for _, x := range slices.Backward(c.Exts) {
		second := byte((2+len(x.Data))/8 - 1)
		if x.Kind == 44 {
			second = 0
		}
		b = slices.Concat([]byte{next, second}, x.Data, b)
		next = x.Kind
	}
	return b, next
}

// parseChainTold is what ParseChain answers, as P6.3 tells it: its errors one
// by one, in their order, header by header.
func parseChainTold(first uint8, b []byte) (ipsix.Chain, int, api.Errno) {
	c, at, later := ipsix.Chain{}, 0, false
	next := first
	for slices.Contains(kinds, next) && !later {
		rest := b[at:]
		if len(c.Exts) == 16 {
			return ipsix.Chain{}, 0, api.ErrChain
		}
		if next == 0 && len(c.Exts) > 0 {
			return ipsix.Chain{}, 0, api.ErrChain
		}
		if len(rest) < 2 {
			return ipsix.Chain{}, 0, api.ErrShort
		}
		size := 8
		if next != 44 {
			size = 8 * (int(rest[1]) + 1)
		}
		if len(rest) < size {
			return ipsix.Chain{}, 0, api.ErrShort
		}
		if next == 44 && (rest[1] != 0 || rest[3]/2%4 != 0) {
			return ipsix.Chain{}, 0, api.ErrChain
		}
		x := ipsix.Ext{Kind: next, Data: bytes.Clone(rest[2:size])}
		c.Exts = append(c.Exts, x)
		later = laterTold(x)
		next = rest[0]
		at += size
	}
	c.Proto = next
	return c, at, api.OK
}

// same holds chains against each other without Same.
func same(a, b ipsix.Chain) bool {
	return fmt.Sprint(a) == fmt.Sprint(b)
}

func wantRight(t *testing.T, what string, c ipsix.Chain, want bool) {
	t.Helper()
	if rightTold(c) != want {
		t.Fatalf("%s: the test itself does not tell %v: %v", what, want, c)
	}
	if ipsix.Right(c) != want {
		t.Errorf("%s: right is not %v: %v", what, want, c)
	}
	var row []byte
	var next uint8
	told := api.ErrChain
	if want {
		row, next = putChainTold(c)
		told = api.OK
	}
	b, first, e := ipsix.PutChain(c)
	if e != told || first != next || !bytes.Equal(b, row) || len(row) == 0 && b != nil {
		t.Errorf("%s: PutChain(%v): % x, %d, error %d, not % x, %d, error %d", what, c, b, first, int(e), row, next, int(told))
	}
	if !ipsix.Same(c, c) || !ipsix.Same(c, copied(c)) {
		t.Errorf("%s: %v is not the same as itself", what, c)
	}
	if want {
		wantBack(t, what, c, row, next)
	}
}

// wantBack holds what is parsed of how a chain stands against the chain (P6.6).
func wantBack(t *testing.T, what string, c ipsix.Chain, row []byte, first uint8) {
	t.Helper()
	for _, tail := range [][]byte{nil, {0}, make([]byte, 24), bytes.Repeat([]byte{255}, 9), mixed(40, len(row)), row} {
		got, n, e := ipsix.ParseChain(first, slices.Concat(row, tail))
		if e != api.OK || n != len(row) || !ipsix.Same(got, c) || !same(got, c) {
			t.Errorf("%s: %v is parsed as %v, %d, error %d", what, c, got, n, int(e))
		}
	}
}

// wantChain holds what ParseChain answers against P6.3; its error, which the
// test knows as well, is held against both.
func wantChain(t *testing.T, what string, first uint8, b []byte, want api.Errno) {
	t.Helper()
	told, size, e := parseChainTold(first, b)
	if e != want {
		t.Fatalf("%s: the test itself tells %d, not %d: %d, % x", what, int(e), int(want), first, b)
	}
	c, n, f := ipsix.ParseChain(first, b)
	if f != want || n != size || !same(c, told) {
		t.Errorf("%s: ParseChain(%d, % x): %v, %d, error %d, not %v, %d, error %d", what, first, b, c, n, int(f), told, size, int(want))
	}
	if f == api.OK {
		wantPutAgain(t, what, c, first, b[:n])
	}
}

// wantChainAsTold is the same, for bytes of which the test does not know more.
func wantChainAsTold(t *testing.T, what string, first uint8, b []byte) {
	t.Helper()
	_, _, e := parseChainTold(first, b)
	wantChain(t, what, first, b, e)
}

// wantPutAgain asks whether what was parsed is right, and put as it stood
// (P6.6).
func wantPutAgain(t *testing.T, what string, c ipsix.Chain, first uint8, row []byte) {
	t.Helper()
	got, next, e := ipsix.PutChain(c)
	if !ipsix.Right(c) || e != api.OK || next != first || !bytes.Equal(got, row) {
		t.Errorf("%s: parsed of %d, % x, it is put as %d, % x, error %d", what, first, row, next, got, int(e))
	}
}

// copied is a chain in memory of its own.
func copied(c ipsix.Chain) ipsix.Chain {
	c.Exts = slices.Clone(c.Exts)
	for i := range c.Exts {
		c.Exts[i].Data = bytes.Clone(c.Exts[i].Data)
	}
	return c
}

// P6.1

func TestExamples(t *testing.T) {
	b, first, e := ipsix.PutChain(chain(6, ipsix.Ext{Kind: 60, Data: make([]byte, 6)}))
	if e != api.OK || first != 60 || !bytes.Equal(b, []byte{6, 0, 0, 0, 0, 0, 0, 0}) {
		t.Errorf("PutChain: % x, %d, error %d", b, first, int(e))
	}
	c, n, e := ipsix.ParseChain(44, []byte{17, 0, 0, 9, 0, 0, 0, 5})
	if e != api.OK || n != 8 || c.Proto != 17 || len(c.Exts) != 1 || c.Exts[0].Kind != 44 {
		t.Errorf("ParseChain: %v, %d, error %d", c, n, int(e))
	}
	if offset, more, id, ok := ipsix.Frag(c); offset != 1 || !more || id != 5 || !ok {
		t.Errorf("Frag: %d, %v, %d, %v", offset, more, id, ok)
	}
	c, n, e = ipsix.ParseChain(6, nil)
	if e != api.OK || n != 0 || c.Exts != nil || c.Proto != 6 {
		t.Errorf("ParseChain of nothing: %v, %d, error %d", c, n, int(e))
	}
	c, n, e = ipsix.ParseChain(60, make([]byte, 8))
	if e != api.ErrChain || n != 0 || c.Exts != nil || c.Proto != 0 {
		t.Errorf("ParseChain of a 60 ahead of a 0: %v, %d, error %d", c, n, int(e))
	}
}

// A header written out by hand.
func TestPutOfAKnownHeader(t *testing.T) {
	h := ipsix.Header{Class: 0xab, Flow: 0xcdef1, Length: 0x2345, Next: 58, Hops: 255}
	h.Src, h.Dst = [16]byte{0: 0xfe, 1: 0x80, 15: 1}, [16]byte{0: 0xff, 1: 2, 15: 0xfb}
	want := []byte{
		0x6a, 0xbc, 0xde, 0xf1, 0x23, 0x45, 58, 255,
		0xfe, 0x80, 0, 0, 0, 0, 0, 0, 0, 0, 0, 0, 0, 0, 0, 1,
		0xff, 2, 0, 0, 0, 0, 0, 0, 0, 0, 0, 0, 0, 0, 0, 0xfb,
	}
	if b, e := ipsix.Put(h); e != api.OK || !bytes.Equal(b, want) {
		t.Errorf("Put: % x, error %d", b, int(e))
	}
	if got, e := ipsix.Parse(want); e != api.OK || got != h {
		t.Errorf("Parse: %v, error %d", got, int(e))
	}
}

func TestPut(t *testing.T) {
	for _, h := range headers() {
		wantPut(t, h)
	}
	for x := range 256 {
		for at := range 16 {
			h := plain()
			h.Src[at] = byte(x)
			wantPut(t, h)
			h = plain()
			h.Dst[at] = byte(x)
			wantPut(t, h)
		}
		h := plain()
		h.Class, h.Next, h.Hops = byte(x), byte(x+1), byte(x+2)
		wantPut(t, h)
	}
	for flow := uint32(0); flow < 1<<20; flow += 97 {
		h := plain()
		h.Flow = flow
		wantPut(t, h)
	}
}

func TestPutOfAFlowThatMayNotBe(t *testing.T) {
	for _, flow := range []uint32{1 << 20, 1<<20 + 1, 1<<21 - 1, 1 << 21, 1 << 24, 1 << 28, 1 << 31, 1<<32 - 1} {
		for _, h := range headers() {
			h.Flow = flow
			if b, e := ipsix.Put(h); b != nil || e != api.ErrHeader {
				t.Errorf("Flow %d: % x, error %d", flow, b, int(e))
			}
		}
	}
}

func TestParseOfTooFew(t *testing.T) {
	wantParse(t, "nil", nil, api.ErrShort)
	wantParse(t, "empty", []byte{}, api.ErrShort)
	for _, h := range headers() {
		b := putTold(h)
		for n := range b {
			wantParse(t, "the beginning of a header", b[:n], api.ErrShort)
		}
		wantParse(t, "all of a header", b, api.OK)
	}
}

// Whichever first digits stand there, too few bytes are told first.
func TestParseOfEachFirstByte(t *testing.T) {
	for first := range 256 {
		b := mixed(50, first)
		b[0] = byte(first)
		want := api.OK
		if first/16 != 6 {
			want = api.ErrVersion
		}
		wantParse(t, "40 bytes", b[:40], want)
		wantParse(t, "50 bytes", b, want)
		wantParse(t, "39 bytes", b[:39], api.ErrShort)
		wantParse(t, "a byte", b[:1], api.ErrShort)
	}
}

func TestParseOfAnyBytes(t *testing.T) {
	for seed := range 3000 {
		b := mixed(40+seed%30, seed)
		b[0] = 96 + b[0]%16
		wantParse(t, "any bytes", b, api.OK)
		h, _ := ipsix.Parse(b)
		if got, e := ipsix.Put(h); e != api.OK || !bytes.Equal(got, b[:40]) {
			t.Errorf("% x is put as % x, error %d", b[:40], got, int(e))
		}
	}
}

// Of a header each binary digit tells its part alone.
func TestParseOfEachDigit(t *testing.T) {
	for at := 4; at < 320; at++ {
		b := make([]byte, 40)
		b[0] = 96
		b[at/8] |= 128 >> (at % 8)
		wantParse(t, "a digit", b, api.OK)
	}
}

func TestPutIsParsedAsItWas(t *testing.T) {
	for i, h := range headers() {
		b, e := ipsix.Put(h)
		if e != api.OK {
			t.Fatalf("Put(%v): error %d", h, int(e))
		}
		for _, tail := range [][]byte{nil, {0}, {255}, make([]byte, 60), mixed(77, i), b} {
			if got, e := ipsix.Parse(slices.Concat(b, tail)); e != api.OK || got != h {
				t.Errorf("%v is parsed as %v, error %d", h, got, int(e))
			}
		}
	}
}

// P6.2

func TestRightOfNoHeader(t *testing.T) {
	for proto := range 256 {
		ends := !slices.Contains(kinds, uint8(proto))
		wantRight(t, "nil", chain(uint8(proto)), ends)
		wantRight(t, "empty", ipsix.Chain{Exts: []ipsix.Ext{}, Proto: uint8(proto)}, ends)
	}
}

func TestRightOfHowManyHeaders(t *testing.T) {
	for n := range 40 {
		wantRight(t, strconv.Itoa(n)+" headers", many(n), n <= 16)
	}
	wantRight(t, "65536 headers", many(65536), false)
	c := many(16)
	c.Exts[0] = ext(0, 14)
	wantRight(t, "a 0, and 15 more", c, true)
	c.Exts[15] = fragment(9, 0, true, 1)
	c.Proto = 60
	wantRight(t, "16, the last one a fragment that is not the first one", c, true)
	c.Exts = append(c.Exts, ext(60, 6))
	wantRight(t, "the same, and one more", c, false)
}

func TestRightOfEachKind(t *testing.T) {
	for kind := range 256 {
		k := uint8(kind)
		is := slices.Contains(kinds, k)
		wantRight(t, "alone", chain(6, ext(k, 6)), is)
		wantRight(t, "first", chain(6, ext(k, 6), ext(60, 6)), is)
		wantRight(t, "last", chain(6, ext(60, 6), ext(k, 6)), is && k != 0)
		wantRight(t, "amid", chain(6, ext(0, 6), ext(k, 6), ext(43, 6)), is && k != 0)
		wantRight(t, "without data", chain(6, ipsix.Ext{Kind: k}), false)
	}
}

func TestRightOfEachSize(t *testing.T) {
	for n := range 2100 {
		whole := n%8 == 6 && n <= 2046
		for _, k := range []uint8{0, 43, 60} {
			wantRight(t, strconv.Itoa(n)+" bytes of data", chain(6, ext(k, n)), whole)
		}
		wantRight(t, strconv.Itoa(n)+" bytes of data of a fragment", chain(6, ext(44, n)), n == 6)
		wantRight(t, strconv.Itoa(n)+" bytes behind another", chain(6, ext(0, 2046), ext(60, n)), whole)
	}
	// So many bytes that a length of a byte, or of two, would wrap.
	for _, n := range []int{2046 + 2048, 4096 + 6, 65536 + 6, 524288 + 6} {
		for _, k := range kinds {
			wantRight(t, strconv.Itoa(n)+" bytes of data", chain(6, ext(k, n)), false)
		}
	}
	for _, k := range kinds {
		wantRight(t, "empty data", chain(6, ipsix.Ext{Kind: k, Data: []byte{}}), false)
	}
}

// Each word of a fragment that may stand ahead of its ID.
func TestRightOfEachFragment(t *testing.T) {
	for v := range 65536 {
		x := ipsix.Ext{Kind: 44, Data: []byte{byte(v / 256), byte(v), 1, 2, 3, 4}}
		first := v < 8
		whole := v/2%4 == 0
		what := "a fragment " + strconv.Itoa(v)
		if ipsix.Right(chain(6, x)) != whole {
			t.Errorf("%s: right is not %v", what, whole)
		}
		for _, k := range kinds {
			if want := whole && !first; ipsix.Right(chain(k, x)) != want {
				t.Errorf("%s, and the protocol %d: right is not %v", what, k, want)
			}
		}
		if want := whole && first; ipsix.Right(chain(6, x, ext(60, 6))) != want {
			t.Errorf("%s ahead of a 60: right is not %v", what, want)
		}
	}
}

func TestRightOfFragments(t *testing.T) {
	for _, offset := range []uint16{0, 1, 31, 32, 255, 256, 4096, 8191} {
		for digits := range byte(4) {
			for _, more := range []bool{false, true} {
				x := fragment(offset, digits, more, 0x01020304)
				is := digits == 0
				wantRight(t, "alone", chain(17, x), is)
				wantRight(t, "last", chain(17, ext(0, 6), ext(60, 14), x), is)
				wantRight(t, "ahead of others", chain(17, x, ext(60, 6)), is && offset == 0)
				wantRight(t, "amid", chain(17, ext(43, 6), x, ext(60, 6)), is && offset == 0)
				wantRight(t, "two of them", chain(17, x, x), is && offset == 0)
				wantRight(t, "behind the first one", chain(17, fragment(0, 0, true, 9), x), is)
				for _, k := range kinds {
					wantRight(t, "ahead of a kind", chain(k, x), is && offset > 0)
					wantRight(t, "last, ahead of a kind", chain(k, ext(0, 6), x), is && offset > 0)
					wantRight(t, "not last, and a kind", chain(k, x, ext(60, 6)), false)
				}
			}
		}
	}
}

// A header that looks like a fragment's data is none, if it is of another kind.
func TestRightOfOtherKindsWithAFragmentsData(t *testing.T) {
	for _, k := range []uint8{0, 43, 60} {
		for v := range 256 {
			x := ipsix.Ext{Kind: k, Data: []byte{byte(v), byte(v), 0, 0, 0, 0}}
			wantRight(t, "alone", chain(6, x), true)
			wantRight(t, "ahead of another", chain(6, x, ext(60, 6)), true)
			wantRight(t, "with a kind for a protocol", chain(60, x), false)
		}
	}
}

// pieces are headers of chains, right ones and others.
func pieces() []ipsix.Ext {
	return []ipsix.Ext{
		ext(0, 6), ext(43, 6), ext(60, 14), fragment(0, 0, true, 7), fragment(3, 0, false, 8), // right
		ext(60, 7), ext(44, 14), ext(59, 6), {Kind: 0}, fragment(0, 1, false, 7), fragment(8191, 2, true, 7), {},
	}
}

// All chains of up to three headers out of those.
func TestRightAsTold(t *testing.T) {
	chains := [][]ipsix.Ext{nil}
	for len(chains[0]) <= 3 {
		var next [][]ipsix.Ext
		for _, exts := range chains {
			for _, proto := range []uint8{0, 6, 43, 44, 59, 60, 255} {
				c := chain(proto, exts...)
				wantRight(t, "pieces", c, rightTold(c))
			}
			for _, x := range pieces() {
				next = append(next, append(slices.Clone(exts), x))
			}
		}
		chains = next
	}
}

func TestSamePartByPart(t *testing.T) {
	changes := map[string]func(c *ipsix.Chain){
		"protocol":  func(c *ipsix.Chain) { c.Proto++ },
		"one more":  func(c *ipsix.Chain) { c.Exts = append(c.Exts, ext(60, 6)) },
		"none more": func(c *ipsix.Chain) { c.Exts = append(c.Exts, ipsix.Ext{}) },
	}
	for at := range 3 {
		name := strconv.Itoa(at)
		changes["kind "+name] = func(c *ipsix.Chain) { c.Exts[at].Kind++ }
		changes["a byte more "+name] = func(c *ipsix.Chain) { c.Exts[at].Data = append(c.Exts[at].Data, 0) }
		changes["a byte less "+name] = func(c *ipsix.Chain) { c.Exts[at].Data = c.Exts[at].Data[1:] }
		changes["a byte off the end "+name] = func(c *ipsix.Chain) { c.Exts[at].Data = c.Exts[at].Data[:len(c.Exts[at].Data)-1] }
		changes["a header less "+name] = func(c *ipsix.Chain) { c.Exts = slices.Delete(c.Exts, at, at+1) }
		for i := range 6 {
			changes["data "+name+" "+strconv.Itoa(i)] = func(c *ipsix.Chain) { c.Exts[at].Data[i] ^= 1 }
		}
	}
	for _, c := range []ipsix.Chain{
		chain(6, ext(0, 6), ext(60, 14), fragment(1, 0, true, 5)),
		chain(0, ext(9, 6), ext(44, 7), ext(0, 100)),
		chain(255, ext(43, 2046), fragment(0, 3, false, 0), ext(60, 3000)),
	} {
		for what, change := range changes {
			other := copied(c)
			change(&other)
			if ipsix.Same(c, other) || ipsix.Same(other, c) {
				t.Errorf("%s: %v and %v are the same", what, c, other)
			}
		}
	}
}

func TestSameOfAlikeChains(t *testing.T) {
	a, b := ext(43, 6), ext(60, 14)
	for _, x := range [][2]ipsix.Chain{
		{chain(6, a, b), chain(6, b, a)},
		{chain(6, a), chain(6, a, a)},
		{chain(43), chain(6, a)},
		{chain(6), chain(0)},
		{chain(6, ipsix.Ext{}), chain(6)},
	} {
		if ipsix.Same(x[0], x[1]) || ipsix.Same(x[1], x[0]) {
			t.Errorf("%v and %v are the same", x[0], x[1])
		}
	}
	empty := ipsix.Chain{Exts: []ipsix.Ext{}, Proto: 6}
	if !ipsix.Same(chain(6), empty) || !ipsix.Same(empty, chain(6)) || !ipsix.Same(ipsix.Chain{}, ipsix.Chain{}) {
		t.Error("no headers are not the same as an empty row of them")
	}
	none, nought := chain(6, ipsix.Ext{Kind: 60}), chain(6, ipsix.Ext{Kind: 60, Data: []byte{}})
	if !ipsix.Same(none, nought) || !ipsix.Same(nought, none) {
		t.Error("no data are not the same as an empty row of them")
	}
	all := mixed(14, 1)
	x, y := chain(6, ipsix.Ext{Kind: 60, Data: all[:6]}), chain(6, ipsix.Ext{Kind: 60, Data: bytes.Clone(all[:6])})
	if !ipsix.Same(x, y) {
		t.Error("memory behind data is held against others")
	}
	if !ipsix.Same(many(17), many(17)) || ipsix.Same(many(17), many(18)) {
		t.Error("chains that are not right are not held against each other")
	}
}

// Data end at their length, whatever lies behind it in their memory, and so do
// headers.
func TestPutChainWithMemoryBehind(t *testing.T) {
	all := mixed(60, 4)
	exts := []ipsix.Ext{{Kind: 0, Data: all[:6]}, {Kind: 43, Data: all[:14]}, {Kind: 60, Data: all[9:15]}, ext(0, 6), ext(1, 1)}
	for n := range 4 {
		wantRight(t, "memory behind", chain(6, exts[:n]...), true)
	}
}

func wantFrag(t *testing.T, what string, c ipsix.Chain, offset uint16, more bool, id uint32) {
	t.Helper()
	if o, m, i, ok := ipsix.Frag(c); o != offset || m != more || i != id || !ok {
		t.Errorf("%s: Frag(%v): %d, %v, %d, %v, not %d, %v, %d", what, c, o, m, i, ok, offset, more, id)
	}
}

func wantNoFrag(t *testing.T, what string, c ipsix.Chain) {
	t.Helper()
	if o, m, i, ok := ipsix.Frag(c); o != 0 || m || i != 0 || ok {
		t.Errorf("%s: Frag(%v): %d, %v, %d, %v, not noughts", what, c, o, m, i, ok)
	}
}

func TestFrag(t *testing.T) {
	for _, offset := range []uint16{0, 1, 31, 32, 255, 256, 8190, 8191} {
		for _, more := range []bool{false, true} {
			for _, id := range []uint32{0, 1, 255, 256, 65536, 1 << 24, 0x01020304, 1<<32 - 1} {
				x := fragment(offset, 0, more, id)
				wantFrag(t, "alone", chain(6, x), offset, more, id)
				wantFrag(t, "last", chain(6, ext(0, 22), ext(60, 6), x), offset, more, id)
				wantFrag(t, "behind another", chain(6, fragment(0, 0, !more, id+1), x), 0, !more, id+1)
				if offset > 0 {
					wantFrag(t, "with a kind for a protocol", chain(44, x), offset, more, id)
					continue
				}
				wantFrag(t, "ahead of others", chain(6, x, ext(60, 6)), 0, more, id)
				wantFrag(t, "ahead of others of its kind", chain(6, ext(43, 6), x, fragment(0, 0, true, 77), fragment(78, 0, true, 79)), 0, more, id)
			}
		}
	}
}

func TestFragOfNone(t *testing.T) {
	wantNoFrag(t, "nothing", ipsix.Chain{})
	wantNoFrag(t, "no header", chain(6))
	for n := range 17 {
		wantNoFrag(t, "other kinds", many(n))
	}
	for _, k := range []uint8{0, 43, 60} {
		wantNoFrag(t, "another kind", chain(6, ipsix.Ext{Kind: k, Data: fragment(5, 0, true, 6).Data}))
	}
}

// Of a chain that is not right there is no fragment to tell.
func TestFragOfAChainThatIsNotRight(t *testing.T) {
	x := fragment(0, 0, true, 5)
	later := fragment(1, 0, true, 5)
	for i, c := range []ipsix.Chain{
		chain(60, x), chain(6, x, ext(0, 6)), chain(6, x, ext(59, 6)), chain(6, later, ext(60, 6)), chain(6, later, later),
		chain(6, ipsix.Ext{Kind: 44}), chain(6, ipsix.Ext{Kind: 44, Data: x.Data[:1]}), chain(6, ipsix.Ext{Kind: 44, Data: x.Data[:5]}),
		chain(6, ext(44, 14)), chain(6, fragment(0, 1, true, 5)), chain(6, fragment(2, 2, true, 5)), chain(6, x, fragment(2, 2, true, 5)),
		{Exts: slices.Repeat([]ipsix.Ext{x}, 17), Proto: 6},
	} {
		wantNoFrag(t, strconv.Itoa(i), c)
	}
	wantFrag(t, "16 of them", ipsix.Chain{Exts: slices.Repeat([]ipsix.Ext{x}, 16), Proto: 6}, 0, true, 5)
}

// P6.3

func TestParseChainOfNoHeader(t *testing.T) {
	for first := range 256 {
		want := api.OK
		if slices.Contains(kinds, uint8(first)) {
			want = api.ErrShort
		}
		wantChain(t, "nil", uint8(first), nil, want)
		wantChain(t, "empty", uint8(first), []byte{}, want)
		wantChain(t, "one byte", uint8(first), []byte{6}, want)
		wantChain(t, "a byte of a kind", uint8(first), []byte{60}, want)
		if want == api.OK {
			wantChain(t, "any bytes", uint8(first), mixed(50, first), api.OK)
		}
	}
}

// Each protocol, and each kind, behind each kind.
func TestParseChainOfEachNext(t *testing.T) {
	for _, k := range kinds {
		for next := range 256 {
			b := make([]byte, 8)
			b[0] = byte(next)
			want := api.OK
			switch next {
			case 0:
				want = api.ErrChain
			case 43, 44, 60:
				want = api.ErrShort
			}
			wantChain(t, "a header", k, b, want)
			if want == api.ErrShort {
				wantChain(t, "two of them", k, append(b, 6, 0, 0, 0, 0, 0, 0, 0), api.OK)
			}
		}
	}
}

// Each second byte, of as many bytes as it tells, of one fewer, and of more.
func TestParseChainOfEachSecondByte(t *testing.T) {
	for _, k := range []uint8{0, 43, 60} {
		for second := range 256 {
			b := append([]byte{17, byte(second)}, mixed(6+8*second, second)...)
			wantChain(t, "all of it", k, b, api.OK)
			wantChain(t, "and another behind", k, append(bytes.Clone(b), 60), api.OK)
			wantChain(t, "a byte too short", k, b[:len(b)-1], api.ErrShort)
			wantChain(t, "8 bytes too short", k, b[:len(b)-8], api.ErrShort)
			wantChain(t, "two bytes of it", k, b[:2], api.ErrShort)
			b[0] = 60
			wantChain(t, "one more ought to be", k, b, api.ErrShort)
			wantChain(t, "one more, as long", k, slices.Concat(b, []byte{17, byte(second)}, make([]byte, 6+8*second)), api.OK)
		}
	}
	for second := range 256 {
		b := append([]byte{17, byte(second), 0, 1}, mixed(3000, second)...)
		want := api.OK
		if second > 0 {
			want = api.ErrChain
		}
		wantChain(t, "a fragment", 44, b, want)
		wantChain(t, "a fragment of 8 bytes", 44, b[:8], want)
		wantChain(t, "a fragment of 7 bytes", 44, b[:7], api.ErrShort)
		wantChain(t, "a fragment of 2 bytes", 44, b[:2], api.ErrShort)
	}
}

// Each word of a fragment ahead of its ID, with each second byte of a few.
func TestParseChainOfEachFragment(t *testing.T) {
	for v := range 65536 {
		b := []byte{60, 0, byte(v / 256), byte(v), 1, 2, 3, 4, 17, 0, 1, 2, 3, 4, 5, 6}
		want := api.OK
		if v/2%4 != 0 {
			want = api.ErrChain
		}
		wantChain(t, "a fragment, ahead of a 60", 44, b, want)
		if want == api.OK && v < 8 {
			want = api.ErrShort
		}
		wantChain(t, "a fragment, and a 60 that is not there", 44, b[:8], want)
		b[1] = 1
		wantChain(t, "a fragment with a second byte", 44, b, api.ErrChain)
	}
}

// Behind a fragment that is not the first one no header is read, whatever
// comes next.
func TestParseChainBehindALaterFragment(t *testing.T) {
	for next := range 256 {
		for _, offset := range []uint16{1, 31, 32, 8191} {
			b := slices.Concat([]byte{byte(next), 0}, fragment(offset, 0, true, 9).Data)
			for _, tail := range [][]byte{nil, {60}, {6, 0, 0, 0, 0, 0, 0, 0}, mixed(40, next)} {
				row := slices.Concat(b, tail)
				wantChain(t, "a fragment that is not the first one", 44, row, api.OK)
				c, n, _ := ipsix.ParseChain(44, row)
				if n != 8 || len(c.Exts) != 1 || c.Proto != uint8(next) {
					t.Errorf("ParseChain(44, % x): %v, %d", row, c, n)
				}
				wantChain(t, "the same, behind a 0", 0, slices.Concat([]byte{44, 0, 1, 2, 3, 4, 5, 6}, row), api.OK)
			}
		}
	}
}

// rowOf is how headers stand of which each one leads to the next one.
func rowOf(proto uint8, exts ...ipsix.Ext) []byte {
	b, _ := putChainTold(chain(proto, exts...))
	return b
}

func TestParseChainOfHowManyHeaders(t *testing.T) {
	for n := 1; n < 20; n++ {
		b, first := putChainTold(many(n))
		want := api.OK
		if n > 16 {
			want = api.ErrChain
		}
		wantChain(t, strconv.Itoa(n)+" headers", first, b, want)
		wantChain(t, strconv.Itoa(n)+" headers, and more", first, append(b, 60, 0), want)
	}
	sixteen := many(16).Exts
	for _, k := range kinds {
		wantChain(t, "16, and nothing where one more is told", 60, rowOf(k, sixteen...), api.ErrChain)
		wantChain(t, "16, and a byte", 60, append(rowOf(k, sixteen...), 6), api.ErrChain)
		wantChain(t, "16, and one more", 60, append(rowOf(k, sixteen...), 6, 0, 0, 0, 0, 0, 0, 0), api.ErrChain)
		last := append(slices.Clone(sixteen[:15]), fragment(1, 0, false, 3))
		wantChain(t, "16, the last one a fragment that is not the first one", 60, rowOf(k, last...), api.OK)
		last[15] = fragment(0, 0, false, 3)
		wantChain(t, "16, the last one a fragment", 60, rowOf(k, last...), api.ErrChain)
		wantChain(t, "15, and nothing where one more is told", 60, rowOf(k, sixteen[:15]...), map[bool]api.Errno{true: api.ErrChain, false: api.ErrShort}[k == 0])
	}
	long := slices.Repeat([]ipsix.Ext{ext(43, 2046)}, 16)
	wantChain(t, "16 of 2048 bytes", 43, rowOf(6, long...), api.OK)
	wantChain(t, "16 of 2048 bytes, a byte too short", 43, rowOf(6, long...)[:32767], api.ErrShort)
	wantChain(t, "16 of 2048 bytes, and others", 43, append(rowOf(6, long...), mixed(70000, 1)...), api.OK)
}

// A kind 0 that is not the first header is told, whether it is there or not.
func TestParseChainOfAKindThatStandsFirst(t *testing.T) {
	for n := 1; n <= 16; n++ {
		b := rowOf(0, many(n).Exts...)
		wantChain(t, "a 0 that is not there", 60, b, api.ErrChain)
		wantChain(t, "a 0 of one byte", 60, append(b, 6), api.ErrChain)
		wantChain(t, "a 0 that is", 60, append(b, 6, 0, 0, 0, 0, 0, 0, 0), api.ErrChain)
	}
	wantChain(t, "two of them", 0, rowOf(6, ext(0, 6), ext(0, 6)), api.ErrChain)
	wantChain(t, "the first one", 0, rowOf(6, ext(0, 6), ext(60, 6)), api.OK)
	wantChain(t, "behind a fragment", 44, rowOf(6, fragment(0, 0, true, 1), ext(0, 6)), api.ErrChain)
	wantChain(t, "behind a fragment that is not the first one", 44, rowOf(6, fragment(1, 0, true, 1), ext(0, 6)), api.OK)
}

// Of two headers that may not be the first one counts, and nothing is told of
// those ahead of it that may.
func TestParseChainTellsTheFirstHeadersError(t *testing.T) {
	bad := []struct {
		what string
		kind uint8
		row  []byte
		e    api.Errno
		last bool
	}{
		{"a 0", 0, []byte{60, 0, 0, 0, 0, 0, 0, 0}, api.ErrChain, false},
		{"a fragment's second byte", 44, []byte{60, 1, 0, 0, 0, 0, 0, 0}, api.ErrChain, false},
		{"a fragment's greater digit", 44, []byte{60, 0, 0, 4, 0, 0, 0, 0}, api.ErrChain, false},
		{"a fragment's lesser digit", 44, []byte{60, 0, 0, 2, 0, 0, 0, 0}, api.ErrChain, false},
		{"all of a fragment's", 44, []byte{0, 255, 255, 255, 0, 0, 0, 0}, api.ErrChain, false},
		{"too short", 60, []byte{60, 9, 0, 0, 0, 0, 0, 0}, api.ErrShort, true},
		{"a fragment too short, with a second byte and digits", 44, []byte{60, 1, 0, 6, 0, 0, 0}, api.ErrShort, true},
		{"one byte", 43, []byte{0}, api.ErrShort, true},
	}
	for n := 1; n < 16; n++ {
		for _, x := range bad {
			b := append(rowOf(x.kind, many(n).Exts...), x.row...)
			wantChain(t, x.what, 60, b, x.e)
			if x.last {
				continue
			}
			for _, y := range bad {
				if x.row[0] == 60 {
					row := append(bytes.Clone(b[:len(b)-8]), x.row...)
					row[len(row)-8] = y.kind
					wantChain(t, x.what+", then "+y.what, 60, append(row, y.row...), x.e)
				}
			}
		}
	}
}

// All rows of up to three headers out of such as may be, and may not, cut off
// at each length, and read from each kind on.
func TestParseChainAsTold(t *testing.T) {
	var heads [][]byte
	for _, next := range []byte{0, 6, 43, 44, 60} {
		heads = append(heads, []byte{next, 0, 0, 1, 0, 0, 0, 0}, []byte{next, 0, 0, 9, 0, 0, 0, 0}, []byte{next, 1, 0, 4, 60, 0, 0, 0})
	}
	rows := [][]byte{{}}
	for len(rows[0]) <= 24 {
		var next [][]byte
		for _, b := range rows {
			for _, first := range []uint8{0, 6, 43, 44, 60} {
				wantChainAsTold(t, "heads", first, b)
			}
			for _, x := range heads {
				next = append(next, slices.Concat(b, x))
			}
		}
		rows = next
	}
	for i, b := range rows {
		if i%17 == 0 {
			for n := range b {
				wantChainAsTold(t, "cut off", kinds[i%4], b[:n])
			}
		}
	}
}

// Bytes without a plain order, among which kinds come often.
func TestParseChainOfAnyBytes(t *testing.T) {
	for seed := range 20000 {
		b := mixed(8+seed%120, seed)
		for i := range b {
			if i%8 == 0 {
				b[i] = kinds[b[i]%4]
			} else if i%8 == 1 {
				b[i] %= 3
			} else if i%8 == 3 {
				b[i] &^= 6
			}
		}
		wantChainAsTold(t, "any bytes", kinds[seed%4], b)
	}
}

// P6.4

// bodyTold is what Body answers, as P6.4 tells it.
func bodyTold(b []byte) (ipsix.Header, ipsix.Chain, []byte, api.Errno) {
	h, e := parseTold(b)
	if e == api.OK && len(b)-40 < int(h.Length) {
		e = api.ErrShort
	}
	if e != api.OK {
		return ipsix.Header{}, ipsix.Chain{}, nil, e
	}
	end := 40 + int(h.Length)
	c, n, e := parseChainTold(h.Next, b[40:end])
	if e != api.OK {
		return ipsix.Header{}, ipsix.Chain{}, nil, e
	}
	return h, c, b[40+n : end], api.OK
}

func wantBody(t *testing.T, what string, b []byte, want api.Errno) {
	t.Helper()
	header, told, rest, e := bodyTold(b)
	if e != want {
		t.Fatalf("%s: the test itself tells %d, not %d: % x", what, int(e), int(want), b)
	}
	h, c, body, f := ipsix.Body(b)
	if f != want || h != header || !same(c, told) || !bytes.Equal(body, rest) || want != api.OK && (c.Exts != nil || body != nil) {
		t.Errorf("%s: Body(% x): %v, %v, % x, error %d, not %v, %v, % x, error %d", what, b, h, c, body, int(f), header, told, rest, int(want))
	}
}

// packet is a header that tells so many bytes, what comes first, and bytes.
func packet(length int, first uint8, b ...byte) []byte {
	h := plain()
	h.Length, h.Next = uint16(length), first
	return append(putTold(h), b...)
}

func TestBodyOfNoHeader(t *testing.T) {
	for n := range 50 {
		for behind := range 10 {
			wantBody(t, "all, and others behind", packet(n, 17, mixed(n+behind, n)...), api.OK)
		}
		for short := 1; short <= n; short++ {
			wantBody(t, "fewer than Length", packet(n, 17, mixed(n-short, n)...), api.ErrShort)
		}
	}
	wantBody(t, "65535 bytes", packet(65535, 17, mixed(65535, 1)...), api.OK)
	wantBody(t, "65535 bytes, and more", packet(65535, 17, mixed(65536, 1)...), api.OK)
	wantBody(t, "65534 bytes of 65535", packet(65535, 17, mixed(65534, 1)...), api.ErrShort)
}

func TestBodyOfChains(t *testing.T) {
	for _, c := range []ipsix.Chain{
		many(1), many(3), many(16), chain(58, ext(0, 2046), ext(44, 6)), chain(0, ext(0, 6), fragment(5, 0, true, 1)), chain(17, fragment(0, 0, false, 2)),
	} {
		row, first := putChainTold(c)
		for n := range 20 {
			b := packet(len(row)+n, first, slices.Concat(row, mixed(n, n))...)
			wantBody(t, "a chain, and bytes", b, api.OK)
			h, got, body, e := ipsix.Body(append(b, mixed(30, n)...))
			if e != api.OK || h.Next != first || !same(got, c) || !bytes.Equal(body, mixed(n, n)) {
				t.Errorf("Body: %v, %v, % x, error %d", h, got, body, int(e))
			}
			wantBody(t, "a byte fewer than Length", b[:len(b)-1], api.ErrShort)
		}
		// The chain ends behind Length, though its bytes are there.
		for n := range row {
			_, _, want := parseChainTold(first, row[:n])
			if want != api.ErrShort {
				t.Fatalf("%v, cut off at %d: the test itself tells %d", c, n, int(want))
			}
			wantBody(t, "a chain that ends behind Length", packet(n, first, append(bytes.Clone(row), mixed(40, n)...)...), api.ErrShort)
			wantBody(t, "the same, and fewer than Length", packet(n+1, first, row[:n]...), api.ErrShort)
		}
	}
}

// Whichever defects come together, the first one counts.
func TestBodyTellsTheFirstError(t *testing.T) {
	chains := []struct {
		first uint8
		row   []byte
		e     api.Errno
	}{
		{60, []byte{0, 0, 0, 0, 0, 0, 0, 0}, api.ErrChain},
		{44, []byte{6, 1, 0, 0, 0, 0, 0, 0}, api.ErrChain},
		{44, []byte{6, 0, 0, 2, 0, 0, 0, 0}, api.ErrChain},
		{60, []byte{6, 1, 0, 0, 0, 0, 0, 0}, api.ErrShort},
		{43, []byte{60, 0, 0, 0, 0, 0, 0, 0}, api.ErrShort},
	}
	for _, x := range chains {
		b := packet(8, x.first, x.row...)
		wantBody(t, "the chain's", b, x.e)
		wantBody(t, "the chain's, with others behind", append(bytes.Clone(b), 6, 0, 0, 0, 0, 0, 0, 0), x.e)
		wantBody(t, "fewer than Length", packet(9, x.first, x.row...), api.ErrShort)
		wantBody(t, "far fewer than Length", packet(65535, x.first, x.row...), api.ErrShort)
		wantBody(t, "no header", b[:39], api.ErrShort)
		b[0] = 0x45
		wantBody(t, "another version", b, api.ErrVersion)
		wantBody(t, "another version, and fewer than Length", b[:40], api.ErrVersion)
		wantBody(t, "another version, and no header", b[:39], api.ErrShort)
	}
	for first := range 256 {
		want := api.OK
		if slices.Contains(kinds, uint8(first)) {
			want = api.ErrShort
		}
		wantBody(t, "Length 0", packet(0, uint8(first)), want)
		wantBody(t, "Length 0, and bytes behind", packet(0, uint8(first), 6, 0, 0, 0, 0, 0, 0, 0), want)
	}
	wantBody(t, "nil", nil, api.ErrShort)
	wantBody(t, "noughts", make([]byte, 60), api.ErrVersion)
}

// P6.5

// spoil overwrites all of a slice's memory, what lies behind its length too.
func spoil(b []byte) {
	b = b[:cap(b)]
	for i := range b {
		b[i] ^= 0xff
	}
}

// inside is b amid memory of other bytes, and all of that memory.
func inside(b []byte) (part, all []byte) {
	all = slices.Concat(mixed(9, 1), b, mixed(70, 2))
	return all[9 : 9+len(b)], all
}

// chains are such as are right, and such as are not.
func chains() []ipsix.Chain {
	l := []ipsix.Chain{{}, chain(6), many(1), many(2), many(16), many(17), chain(60, ext(0, 6), fragment(2, 0, true, 3))}
	for _, x := range pieces() {
		l = append(l, chain(6, x), chain(60, ext(0, 14), x), chain(6, x, ext(60, 6)))
	}
	return l
}

// packets are such as are taken, and such as are refused.
func packets() [][]byte {
	l := [][]byte{nil, {}, make([]byte, 60), packet(9, 6, 1)}
	for i, c := range chains() {
		if ipsix.Right(c) {
			row, first := putChainTold(c)
			l = append(l, packet(len(row)+i%5, first, append(row, mixed(30, i)...)...))
		}
	}
	return l
}

func TestOnlyRead(t *testing.T) {
	for _, b := range packets() {
		part, all := inside(b)
		kept := bytes.Clone(all)
		ipsix.Parse(part)
		ipsix.Body(part)
		for _, k := range append([]uint8{6}, kinds...) {
			ipsix.ParseChain(k, part)
			ipsix.ParseChain(k, part[min(len(part), 40):])
		}
		if !bytes.Equal(all, kept) {
			t.Errorf("what was handed in: % x, not % x", all, kept)
		}
	}
	for _, c := range chains() {
		// The headers, and one's data, lie amid others.
		exts := slices.Concat(c.Exts, []ipsix.Ext{ext(1, 1), ext(2, 2)})
		var rows [][]byte
		for i := range c.Exts {
			var all []byte
			exts[i].Data, all = inside(c.Exts[i].Data)
			rows = append(rows, all)
		}
		kept := fmt.Sprint(exts, rows)
		c.Exts = exts[:len(c.Exts)]
		ipsix.Right(c)
		ipsix.Same(c, c)
		ipsix.Same(c, many(2))
		ipsix.Same(many(2), c)
		ipsix.PutChain(c)
		ipsix.Frag(c)
		if got := fmt.Sprint(exts, rows); got != kept {
			t.Errorf("what was handed in: %s, not %s", got, kept)
		}
	}
}

// What is handed in is spoilt behind the call, and so is one answer: the
// others stay.
func TestNewMemory(t *testing.T) {
	for _, b := range packets() {
		part, all := inside(b)
		h, c, body, e := ipsix.Body(part)
		_, other, again, _ := ipsix.Body(part)
		kept := fmt.Sprint(h, c, body, int(e))
		spoil(all)
		if got := fmt.Sprint(h, c, body, int(e)); got != kept {
			t.Errorf("answers change with what was handed in: %s, not %s", got, kept)
		}
		spoil(body)
		for i := range c.Exts {
			spoil(c.Exts[i].Data)
			c.Exts[i].Kind++
		}
		if got := fmt.Sprint(h, other, again, int(e)); got != kept {
			t.Errorf("answers change with each other: %s, not %s", got, kept)
		}
	}
}

// What is put behind one header's data lies in no other's.
func TestNewMemoryWithinAChain(t *testing.T) {
	row, first := putChainTold(chain(6, ext(0, 14), ext(43, 6), fragment(0, 0, true, 5), ext(60, 30), fragment(9, 0, true, 5)))
	part, all := inside(row)
	c, _, _ := ipsix.ParseChain(first, part)
	want := copied(c)
	kept := bytes.Clone(all)
	for i := range c.Exts {
		c.Exts[i].Data = append(c.Exts[i].Data, 99)
		spoil(c.Exts[i].Data)
		for j := i + 1; j < len(c.Exts); j++ {
			if !bytes.Equal(c.Exts[j].Data, want.Exts[j].Data) {
				t.Errorf("header %d changes with header %d: %v", j, i, c.Exts[j])
			}
		}
	}
	if !bytes.Equal(all, kept) {
		t.Errorf("what was handed in changes with the headers: %v, not %v", all, kept)
	}
}

func TestNewMemoryOfPut(t *testing.T) {
	for _, h := range headers() {
		want := putTold(h)
		first, _ := ipsix.Put(h)
		second, _ := ipsix.Put(h)
		spoil(first)
		if !bytes.Equal(second, want) {
			t.Errorf("Put's answers change with each other: % x, not % x", second, want)
		}
	}
	for _, c := range chains() {
		if !ipsix.Right(c) {
			continue
		}
		want, _ := putChainTold(c)
		given := copied(c)
		first, _, _ := ipsix.PutChain(given)
		second, _, _ := ipsix.PutChain(given)
		for i := range given.Exts {
			spoil(given.Exts[i].Data)
		}
		if !bytes.Equal(first, want) {
			t.Errorf("PutChain's answer changes with the chain: % x, not % x", first, want)
		}
		spoil(first)
		if !bytes.Equal(second, want) {
			t.Errorf("PutChain's answers change with each other: % x, not % x", second, want)
		}
	}
}
