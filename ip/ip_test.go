package ip_test

import (
	"bytes"
	"encoding/binary"
	"fmt"
	"slices"
	"strconv"
	"testing"

	"octroi/api"
	"octroi/ip"
)

// mixed is a row of n bytes without a plain order.
func mixed(n, seed int) []byte {
	b := make([]byte, n)
	x := uint32(seed)*2654435761 + 12345
	for i := range b {
		x = x*1664525 + 1013904223
		b[i] = byte(x >> 24)
	}
	return b
}

// plain is a header without options, of a packet of 40 bytes.
func plain() ip.Header {
	return ip.Header{TOS: 3, Total: 40, ID: 0x1234, DF: true, Frag: 9, TTL: 64, Proto: 17, Src: [4]byte{10, 0, 0, 1}, Dst: [4]byte{192, 168, 7, 255}}
}

// withOptions is a header with n bytes of options, of a packet that is just
// the header.
func withOptions(n int) ip.Header {
	h := plain()
	h.Options = mixed(n, n)
	h.Total = uint16(20 + n)
	return h
}

// rights are headers that are right: ordinary ones, and such as have each part
// at its bounds.
func rights() []ip.Header {
	l := []ip.Header{plain(), {Total: 20}, {Total: 65535}, {Total: 20, TTL: 1, Proto: 6}}
	for n := 0; n <= 40; n += 4 {
		h := withOptions(n)
		l = append(l, h)
		h.Total = 65535
		l = append(l, h)
	}
	for _, flags := range [][2]bool{{false, false}, {true, false}, {false, true}, {true, true}} {
		for _, frag := range []uint16{0, 1, 255, 256, 4095, 4096, 8190, 8191} {
			h := plain()
			h.DF, h.MF, h.Frag = flags[0], flags[1], frag
			l = append(l, h)
		}
	}
	all := ip.Header{TOS: 255, Total: 65535, ID: 65535, DF: true, MF: true, Frag: 8191, TTL: 255, Proto: 255}
	copy(all.Src[:], []byte{255, 255, 255, 255})
	all.Dst = all.Src
	all.Options = bytes.Repeat([]byte{255}, 40)
	return append(l, all)
}

// wrongs are headers that are not right.
func wrongs() []ip.Header {
	var l []ip.Header
	for _, frag := range []uint16{8192, 8193, 16384, 32768, 65535} {
		h := plain()
		h.Frag = frag
		l = append(l, h)
	}
	for _, n := range []int{1, 2, 3, 5, 6, 7, 38, 39, 41, 42, 43, 44, 48, 64, 256, 260, 65536} {
		h := plain()
		h.Options, h.Total = mixed(n, n), 65535
		l = append(l, h)
	}
	for n := 0; n <= 40; n += 4 {
		for _, total := range []int{0, 1, 19, 19 + n} {
			h := withOptions(n)
			h.Total = uint16(total)
			l = append(l, h)
		}
	}
	return l
}

// checksumTold is 65535 less the folded sum of a row's words.
func checksumTold(b []byte) uint16 {
	n := 0
	for i := 0; i < len(b); i += 2 {
		n += int(b[i])*256 + int(b[i+1])
	}
	for n > 65535 {
		n = n%65536 + n/65536
	}
	return uint16(65535 - n)
}

// setCheck lays the right checksum into a header's bytes, of which as many are
// summed as are there.
func setCheck(b []byte, size int) {
	b[10], b[11] = 0, 0
	binary.BigEndian.PutUint16(b[10:], checksumTold(b[:min(size, len(b)&^1)]))
}

func digit(is bool) string {
	if is {
		return "1"
	}
	return "0"
}

// putTold is how a header that is right stands, as the section 'Words' tells
// it; flags and Frag are laid digit by digit.
func putTold(h ip.Header) []byte {
	size := 20 + len(h.Options)
	b := []byte{byte(4*16 + size/4), h.TOS, byte(h.Total / 256), byte(h.Total), byte(h.ID / 256), byte(h.ID)}
	v, err := strconv.ParseUint("0"+digit(h.DF)+digit(h.MF)+fmt.Sprintf("%013b", h.Frag), 2, 16)
	if err != nil {
		panic(err)
	}
	b = append(b, byte(v/256), byte(v), h.TTL, h.Proto, 0, 0)
	b = append(append(b, h.Src[:]...), h.Dst[:]...)
	b = append(b, h.Options...)
	setCheck(b, size)
	return b
}

// parseTold is what Parse answers, as P5.2 tells it: its errors one by one, in
// their order.
func parseTold(b []byte) (ip.Header, int, api.Errno) {
	if len(b) < 20 {
		return ip.Header{}, 0, api.ErrShort
	}
	if b[0] < 64 || b[0] >= 80 {
		return ip.Header{}, 0, api.ErrVersion
	}
	size := (int(b[0]) - 64) * 4
	if size < 20 {
		return ip.Header{}, 0, api.ErrHeader
	}
	if len(b) < size {
		return ip.Header{}, 0, api.ErrShort
	}
	total := int(b[2])*256 + int(b[3])
	if b[6] >= 128 || total < size {
		return ip.Header{}, 0, api.ErrHeader
	}
	if checksumTold(b[:size]) != 0 {
		return ip.Header{}, 0, api.ErrChecksum
	}
	h := ip.Header{TOS: b[1], Total: uint16(total), ID: uint16(b[4])*256 + uint16(b[5]), TTL: b[8], Proto: b[9]}
	h.DF, h.MF = b[6]%128 >= 64, b[6]%64 >= 32
	h.Frag = uint16(b[6]%32)*256 + uint16(b[7])
	copy(h.Src[:], b[12:])
	copy(h.Dst[:], b[16:])
	h.Options = bytes.Clone(b[20:size])
	return h, size, api.OK
}

// same holds headers against each other without Same.
func same(a, b ip.Header) bool {
	options := bytes.Equal(a.Options, b.Options)
	a.Options, b.Options = nil, nil
	return options && fmt.Sprint(a) == fmt.Sprint(b)
}

func wantPut(t *testing.T, h ip.Header) {
	t.Helper()
	want := putTold(h)
	if b, e := ip.Put(h); e != api.OK || !bytes.Equal(b, want) {
		t.Errorf("Put(%v): % x, error %d, not % x", h, b, int(e), want)
	}
}

// wantParse holds what Parse answers against P5.2; its error, which the test
// knows as well, is held against both.
func wantParse(t *testing.T, what string, b []byte, want api.Errno) {
	t.Helper()
	told, size, e := parseTold(b)
	if e != want {
		t.Fatalf("%s: the test itself tells %d, not %d: % x", what, int(e), int(want), b)
	}
	if h, n, f := ip.Parse(b); f != want || n != size || !same(h, told) {
		t.Errorf("%s: Parse(% x): %v, %d, error %d, not %v, %d, error %d", what, b, h, n, int(f), told, size, int(want))
	}
}

// wantAsTold is the same, for bytes of which the test does not know more.
func wantAsTold(t *testing.T, what string, b []byte) {
	t.Helper()
	_, _, e := parseTold(b)
	wantParse(t, what, b, e)
}

func wantBody(t *testing.T, what string, b, want []byte, e api.Errno) {
	t.Helper()
	if got, f := ip.Body(b); f != e || !bytes.Equal(got, want) || e != api.OK && got != nil {
		t.Errorf("%s: Body: % x, error %d, not % x, error %d", what, got, int(f), want, int(e))
	}
}

// P5.1

func TestExamples(t *testing.T) {
	b, e := ip.Put(ip.Header{Total: 20, TTL: 1, Proto: 6})
	want := []byte{0x45, 0, 0, 0x14, 0, 0, 0, 0, 1, 6, 0xb9, 0xe5, 0, 0, 0, 0, 0, 0, 0, 0}
	if e != api.OK || !bytes.Equal(b, want) {
		t.Errorf("Put: % x, error %d", b, int(e))
	}
	wantParse(t, "19 bytes", make([]byte, 19), api.ErrShort)
	wantParse(t, "20 noughts", make([]byte, 20), api.ErrVersion)
	l, e := ip.Options([]byte{1, 7, 3, 9, 0, 5})
	if e != api.OK || len(l) != 1 || l[0].Kind != 7 || !bytes.Equal(l[0].Data, []byte{9}) {
		t.Errorf("Options: %v, error %d", l, int(e))
	}
}

// A header that is well known, with its checksum as others tell it.
func TestKnownHeader(t *testing.T) {
	h := ip.Header{Total: 0x73, DF: true, TTL: 64, Proto: 17, Src: [4]byte{192, 168, 0, 1}, Dst: [4]byte{192, 168, 0, 199}}
	want := []byte{0x45, 0, 0, 0x73, 0, 0, 0x40, 0, 0x40, 0x11, 0xb8, 0x61, 0xc0, 0xa8, 0, 1, 0xc0, 0xa8, 0, 0xc7}
	if b, e := ip.Put(h); e != api.OK || !bytes.Equal(b, want) {
		t.Errorf("Put: % x, error %d", b, int(e))
	}
	if got, n, e := ip.Parse(want); e != api.OK || n != 20 || !same(got, h) {
		t.Errorf("Parse: %v, %d, error %d", got, n, int(e))
	}
}

func TestRightAndPut(t *testing.T) {
	for _, h := range rights() {
		if !ip.Right(h) {
			t.Errorf("%v is right", h)
		}
		wantPut(t, h)
	}
	for _, h := range wrongs() {
		if ip.Right(h) {
			t.Errorf("%v is not right", h)
		}
		if b, e := ip.Put(h); b != nil || e != api.ErrHeader {
			t.Errorf("Put(%v): % x, error %d", h, b, int(e))
		}
	}
}

func TestRightFrag(t *testing.T) {
	h := plain()
	for frag := range 65536 {
		h.Frag = uint16(frag)
		if ip.Right(h) != (frag <= 8191) {
			t.Errorf("Frag %d: right is %v", frag, ip.Right(h))
		}
	}
}

func TestRightOptionsAndTotal(t *testing.T) {
	for n := range 90 {
		for total := range 120 {
			h := plain()
			h.Options, h.Total = make([]byte, n), uint16(total)
			if want := n%4 == 0 && n <= 40 && total >= 20+n; ip.Right(h) != want {
				t.Errorf("%d bytes of options, Total %d: right is not %v", n, total, want)
			}
		}
	}
	// So many options that a length of 16 binary digits would wrap.
	for _, n := range []int{65516, 65520, 65536, 65556} {
		h := plain()
		h.Options, h.Total = make([]byte, n), 65535
		if b, e := ip.Put(h); ip.Right(h) || b != nil || e != api.ErrHeader {
			t.Errorf("%d bytes of options are put", n)
		}
	}
}

// Options end at their length, whatever lies behind it in their memory.
func TestPutOfOptionsWithMemoryBehind(t *testing.T) {
	all := mixed(60, 4)
	for n := 0; n <= 40; n += 4 {
		h := withOptions(n)
		h.Options = all[:n]
		wantPut(t, h)
	}
}

func TestPutOfEachByteOfParts(t *testing.T) {
	for x := range 256 {
		c := byte(x)
		for _, change := range []func(h *ip.Header){
			func(h *ip.Header) { h.TOS = c },
			func(h *ip.Header) { h.Total = uint16(20 + x) },
			func(h *ip.Header) { h.Total = uint16(256*x) + 255 },
			func(h *ip.Header) { h.ID = uint16(x) },
			func(h *ip.Header) { h.ID = 256 * uint16(x) },
			func(h *ip.Header) { h.Frag = uint16(x) },
			func(h *ip.Header) { h.Frag = 32 * uint16(x) },
			func(h *ip.Header) { h.TTL = c },
			func(h *ip.Header) { h.Proto = c },
			func(h *ip.Header) { h.Src[x%4] = c },
			func(h *ip.Header) { h.Dst[x%4] = c },
		} {
			h := plain()
			change(&h)
			wantPut(t, h)
		}
	}
}

// changes make a header another one, each by one part.
func changes() map[string]func(h *ip.Header) {
	l := map[string]func(h *ip.Header){
		"TOS":   func(h *ip.Header) { h.TOS++ },
		"Total": func(h *ip.Header) { h.Total++ },
		"ID":    func(h *ip.Header) { h.ID++ },
		"DF":    func(h *ip.Header) { h.DF = !h.DF },
		"MF":    func(h *ip.Header) { h.MF = !h.MF },
		"Frag":  func(h *ip.Header) { h.Frag++ },
		"TTL":   func(h *ip.Header) { h.TTL++ },
		"Proto": func(h *ip.Header) { h.Proto++ },
		"one option more": func(h *ip.Header) {
			h.Options = append(bytes.Clone(h.Options), 0)
		},
	}
	for i := range 4 {
		l["Src "+strconv.Itoa(i)] = func(h *ip.Header) { h.Src[i]++ }
		l["Dst "+strconv.Itoa(i)] = func(h *ip.Header) { h.Dst[i]++ }
	}
	return l
}

func TestSamePartByPart(t *testing.T) {
	for _, h := range append(rights(), wrongs()...) {
		other := h
		other.Options = bytes.Clone(h.Options)
		if !ip.Same(h, h) || !ip.Same(h, other) {
			t.Errorf("%v is not the same as itself", h)
		}
		for what, change := range changes() {
			other := h
			change(&other)
			if ip.Same(h, other) || ip.Same(other, h) {
				t.Errorf("%s: %v and %v are the same", what, h, other)
			}
		}
		for i := range h.Options {
			other.Options[i] ^= 1
			if ip.Same(h, other) || ip.Same(other, h) {
				t.Errorf("options that differ in place %d are the same", i)
			}
			other.Options[i] ^= 1
		}
	}
}

// Parts that are changed for each other, and options that are noughts, are no
// others' parts.
func TestSameOfAlikeHeaders(t *testing.T) {
	a, b := plain(), plain()
	a.DF, a.MF, b.DF, b.MF = true, false, false, true
	c, d := plain(), plain()
	c.Src, c.Dst, d.Src, d.Dst = plain().Dst, plain().Src, plain().Src, plain().Dst
	e, f := plain(), plain()
	e.TTL, e.Proto, f.TTL, f.Proto = 1, 2, 2, 1
	g, h := plain(), plain()
	g.Options, h.Options = make([]byte, 4), make([]byte, 8)
	for _, x := range [][2]ip.Header{{a, b}, {c, d}, {e, f}, {g, h}, {plain(), g}} {
		if ip.Same(x[0], x[1]) || ip.Same(x[1], x[0]) {
			t.Errorf("%v and %v are the same", x[0], x[1])
		}
	}
	a, b = plain(), plain()
	a.Options, b.Options = nil, []byte{}
	if !ip.Same(a, b) || !ip.Same(b, a) || !ip.Same(ip.Header{}, ip.Header{}) {
		t.Error("nil options are not the same as empty ones")
	}
	all := mixed(12, 1)
	a.Options, b.Options = all[:4], bytes.Clone(all[:4])
	if !ip.Same(a, b) {
		t.Error("memory behind options is held against others")
	}
}

// P5.2

func TestParseOfNothingAndOfTooFew(t *testing.T) {
	wantParse(t, "nil", nil, api.ErrShort)
	wantParse(t, "empty", []byte{}, api.ErrShort)
	for _, h := range rights() {
		b := putTold(h)
		for n := range b {
			wantParse(t, "the beginning of a header", b[:n], api.ErrShort)
		}
		wantParse(t, "all of a header", b, api.OK)
	}
	for first := range 256 {
		b := mixed(20, first)
		b[0] = byte(first)
		for n := 1; n < 20; n++ {
			wantParse(t, "any first byte of too few", b[:n], api.ErrShort)
		}
	}
}

// Each first byte, with a checksum that is right for its length.
func TestParseOfEachFirstByte(t *testing.T) {
	for first := range 256 {
		b := mixed(90, 5)
		b[0], b[2], b[6] = byte(first), 1, 64
		size := first % 16 * 4
		setCheck(b, size)
		want := api.OK
		switch {
		case first/16 != 4:
			want = api.ErrVersion
		case size < 20:
			want = api.ErrHeader
		}
		wantParse(t, "a first byte", b, want)
		if want == api.OK {
			wantParse(t, "ended with its header", b[:size], api.OK)
			wantParse(t, "a byte too short", b[:size-1], api.ErrShort)
		}
	}
}

func TestParseOfEachTotal(t *testing.T) {
	for n := 0; n <= 40; n += 20 {
		h := withOptions(n)
		h.Total = 65535
		b := putTold(h)
		for total := range 65536 {
			b[2], b[3] = byte(total/256), byte(total)
			setCheck(b, 20+n)
			want := api.OK
			if total < 20+n {
				want = api.ErrHeader
			}
			wantParse(t, "a Total", b, want)
		}
	}
}

// Each word of flags and Frag, with a checksum that is right.
func TestParseOfEachFlagsWord(t *testing.T) {
	b := putTold(withOptions(4))
	for v := range 65536 {
		b[6], b[7] = byte(v/256), byte(v)
		setCheck(b, 24)
		want := api.OK
		if v >= 32768 {
			want = api.ErrHeader
		}
		wantParse(t, "flags and Frag", b, want)
	}
}

// Of all checksums one is right, but that 0 and 65535 are alike.
func TestParseOfEachChecksum(t *testing.T) {
	first, nought := putTold(plain()), putTold(plain())
	// What the sum of words lacks is put into a word that was 0.
	nought[4], nought[5] = 0, 0
	setCheck(nought, 20)
	nought[4], nought[5], nought[10], nought[11] = nought[10], nought[11], 0, 0
	for _, b := range [][]byte{first, nought, putTold(withOptions(40))} {
		right := binary.BigEndian.Uint16(b[10:])
		for c := range 65536 {
			binary.BigEndian.PutUint16(b[10:], uint16(c))
			want := api.ErrChecksum
			if uint16(c) == right || right == 0 && c == 65535 {
				want = api.OK
			}
			wantParse(t, "a checksum", b, want)
		}
	}
}

// defects are what may be wrong with a header, in the order in which Parse
// tells it. Each one is done to bytes, of a header with four of options.
var defects = []struct {
	what string
	e    api.Errno
	do   func(b []byte) []byte
}{
	{"below 20 bytes", api.ErrShort, func(b []byte) []byte { return b[:19] }},
	{"version", api.ErrVersion, func(b []byte) []byte { b[0] += 16; return b }},
	{"length below 20", api.ErrHeader, func(b []byte) []byte { b[0] -= 2; return b }},
	{"below its length", api.ErrShort, func(b []byte) []byte { return b[:min(len(b), 23)] }},
	{"digit ahead of DF", api.ErrHeader, func(b []byte) []byte { b[6] |= 128; return b }},
	{"Total below its length", api.ErrHeader, func(b []byte) []byte { b[2], b[3] = 0, 23; return b }},
	{"checksum", api.ErrChecksum, func(b []byte) []byte { return b }},
}

// Whichever defects come together, the first one counts.
func TestParseTellsTheFirstError(t *testing.T) {
	for set := range 1 << len(defects) {
		h := withOptions(4)
		h.Total = 300
		b := putTold(h)
		b = append(b, mixed(9, 3)...)
		what, want := "", api.OK
		for i, d := range defects {
			if set>>i&1 == 0 {
				continue
			}
			b = d.do(b)
			what += d.what + "; "
			if want == api.OK {
				want = d.e
			}
		}
		setCheck(b, 24)
		if set>>(len(defects)-1) == 1 {
			b[11] ^= 1
		}
		wantParse(t, what, b, want)
		got, e := ip.Body(b)
		switch {
		case want == api.OK && (got != nil || e != api.ErrShort):
			t.Errorf("%s: Body: % x, error %d", what, got, int(e))
		case want != api.OK && (got != nil || e != want):
			t.Errorf("%s: Body: % x, error %d, not %d", what, got, int(e), int(want))
		}
		if got, e := ip.Hop(b); e != want || want != api.OK && got != nil {
			t.Errorf("%s: Hop: % x, error %d, not %d", what, got, int(e), int(want))
		}
	}
}

func TestParseWithOthersBehind(t *testing.T) {
	for i, h := range rights() {
		b := putTold(h)
		for _, n := range []int{0, 1, 2, 3, 4, 20, 41, 100} {
			for _, tail := range [][]byte{make([]byte, n), bytes.Repeat([]byte{255}, n), mixed(n, i)} {
				wantParse(t, "with others behind", append(bytes.Clone(b), tail...), api.OK)
			}
		}
	}
}

// What lies in a slice's memory behind its length is not looked at.
func TestParseEndsAtTheLength(t *testing.T) {
	b := putTold(withOptions(40))
	for n := range b {
		wantParse(t, "the beginning", b[:n], api.ErrShort)
		wantBody(t, "the beginning", b[:n], nil, api.ErrShort)
	}
	h := withOptions(8)
	h.Total = 30
	b = append(putTold(h), mixed(20, 2)...)
	wantBody(t, "a byte too short", b[:29], nil, api.ErrShort)
	wantBody(t, "just as long", b[:30], bytes.Clone(b[28:30]), api.OK)
}

// Rows of bytes that are any, but for what the first errors ask for.
func TestParseOfAnyBytes(t *testing.T) {
	for seed := range 4000 {
		b := mixed(18+seed%60, seed)
		wantAsTold(t, "any", b)
		b[0] = byte(64 + seed%16)
		wantAsTold(t, "of the version", b)
		if len(b) < 20 {
			continue
		}
		setCheck(b, seed%16*4)
		wantAsTold(t, "with a checksum", b)
		b[6] &= 127
		setCheck(b, seed%16*4)
		wantAsTold(t, "with a checksum, and without the digit ahead of DF", b)
	}
}

func TestBodyAboutTotal(t *testing.T) {
	for n := 0; n <= 40; n += 4 {
		for _, more := range []int{0, 1, 2, 3, 20, 300} {
			h := withOptions(n)
			h.Total += uint16(more)
			body := mixed(more, more)
			b := append(putTold(h), body...)
			wantBody(t, "just Total bytes", b, body, api.OK)
			for _, behind := range []int{1, 2, 50} {
				wantBody(t, "with others behind", append(bytes.Clone(b), mixed(behind, 8)...), body, api.OK)
			}
			for end := range b {
				wantBody(t, "too few", b[:end], nil, api.ErrShort)
			}
		}
	}
}

func TestBodyOfTheGreatestPacket(t *testing.T) {
	h := withOptions(40)
	h.Total = 65535
	body := mixed(65535-60, 1)
	b := append(putTold(h), body...)
	wantBody(t, "65535 bytes", b, body, api.OK)
	wantBody(t, "65536 bytes", append(bytes.Clone(b), 7), body, api.OK)
	wantBody(t, "65534 bytes", b[:65534], nil, api.ErrShort)
	wantBody(t, "the header alone", b[:60], nil, api.ErrShort)
}

func TestBodyOfWhatIsRefused(t *testing.T) {
	wantBody(t, "nil", nil, nil, api.ErrShort)
	wantBody(t, "noughts", make([]byte, 100), nil, api.ErrVersion)
	b := append(putTold(plain()), mixed(20, 4)...)
	b[10]++
	wantBody(t, "a checksum that is not right", b, nil, api.ErrChecksum)
	// Parse's error counts, even if the packet is too short.
	wantBody(t, "the same, and too short", b[:30], nil, api.ErrChecksum)
}

// P5.3

// optionsTold are the options of bytes, as the section 'Words' tells them.
func optionsTold(b []byte) ([]ip.Option, bool) {
	if len(b) == 0 || b[0] == 0 {
		return nil, true
	}
	if b[0] == 1 {
		return optionsTold(b[1:])
	}
	if len(b) == 1 || b[1] < 2 || int(b[1]) > len(b) {
		return nil, false
	}
	l, ok := optionsTold(b[b[1]:])
	return append([]ip.Option{{Kind: b[0], Data: b[2:b[1]]}}, l...), ok
}

func sameOptions(a, b []ip.Option) bool {
	return slices.EqualFunc(a, b, func(x, y ip.Option) bool {
		return x.Kind == y.Kind && bytes.Equal(x.Data, y.Data)
	})
}

func wantOptions(t *testing.T, b []byte, want ...ip.Option) {
	t.Helper()
	if l, e := ip.Options(b); e != api.OK || !sameOptions(l, want) {
		t.Errorf("Options(%v): %v, error %d, not %v", b, l, int(e), want)
	}
}

func wantNoOptions(t *testing.T, b []byte) {
	t.Helper()
	if l, e := ip.Options(b); l != nil || e != api.ErrHeader {
		t.Errorf("Options(%v): %v, error %d, not nothing and %d", b, l, int(e), int(api.ErrHeader))
	}
}

func TestOptions(t *testing.T) {
	nine := ip.Option{Kind: 7, Data: []byte{9}}
	none := ip.Option{Kind: 7}
	wantOptions(t, nil)
	wantOptions(t, []byte{})
	wantOptions(t, []byte{0})
	wantOptions(t, []byte{1})
	wantOptions(t, []byte{1, 1, 1, 1})
	wantOptions(t, []byte{1, 0, 7, 3, 9})
	wantOptions(t, []byte{7, 2}, none)
	wantOptions(t, []byte{7, 2, 7, 2, 1, 7, 2}, none, none, none)
	wantOptions(t, []byte{7, 3, 9}, nine)
	wantOptions(t, []byte{1, 1, 7, 3, 9, 1}, nine)
	wantOptions(t, []byte{7, 3, 9, 68, 4, 0, 1, 0}, nine, ip.Option{Kind: 68, Data: []byte{0, 1}})
	wantOptions(t, []byte{2, 4, 1, 1, 255, 3, 0}, ip.Option{Kind: 2, Data: []byte{1, 1}}, ip.Option{Kind: 255, Data: []byte{0}})
	// Behind a kind 0 all is nothing, whatever it would be.
	wantOptions(t, []byte{0, 7})
	wantOptions(t, []byte{0, 7, 0, 7, 1, 7, 200})
	wantOptions(t, []byte{7, 3, 9, 0, 7, 1}, nine)
}

func TestOptionsThatMayNotBe(t *testing.T) {
	for kind := 2; kind < 256; kind++ {
		k := byte(kind)
		wantNoOptions(t, []byte{k})
		wantNoOptions(t, []byte{k, 0})
		wantNoOptions(t, []byte{k, 1})
		wantNoOptions(t, []byte{k, 0, 0, 0})
		wantNoOptions(t, []byte{k, 1, 1, 1})
		wantOptions(t, []byte{k, 2}, ip.Option{Kind: k})
		wantNoOptions(t, []byte{k, 3})
		wantNoOptions(t, []byte{k, 255})
		wantNoOptions(t, []byte{1, 1, k})
		// Ones that may be stand ahead of it: nothing is told of them.
		wantNoOptions(t, []byte{7, 3, 9, k})
		wantNoOptions(t, []byte{7, 3, 9, 1, k, 1, 0, 0})
		wantNoOptions(t, []byte{7, 3, 9, k, 5, 0, 0})
		wantNoOptions(t, []byte{7, 2, k, 4, 0})
		wantOptions(t, []byte{7, 2, k, 4, 0, 8}, ip.Option{Kind: 7}, ip.Option{Kind: k, Data: []byte{0, 8}})
	}
}

// Each length, of so many bytes as are one too few, enough, and one too many.
func TestOptionsOfEachLength(t *testing.T) {
	for size := 2; size < 256; size++ {
		b := append([]byte{130, byte(size)}, mixed(size-2, size)...)
		o := ip.Option{Kind: 130, Data: bytes.Clone(b[2:])}
		wantOptions(t, b, o)
		wantNoOptions(t, b[:size-1])
		wantOptions(t, append(bytes.Clone(b), 1), o)
		wantNoOptions(t, append(bytes.Clone(b), 9))
		wantOptions(t, slices.Concat(b, b), o, o)
	}
}

// More bytes than any header's options may be.
func TestOptionsOfManyBytes(t *testing.T) {
	one := []byte{7, 4, 5, 6}
	want := slices.Repeat([]ip.Option{{Kind: 7, Data: []byte{5, 6}}}, 30000)
	wantOptions(t, bytes.Repeat(one, 30000), want...)
	wantNoOptions(t, append(bytes.Repeat(one, 30000), 2))
	wantOptions(t, bytes.Repeat([]byte{1}, 100000))
	wantOptions(t, make([]byte, 100000))
}

// All rows of up to six bytes of a few kinds and lengths.
func TestOptionsAsTold(t *testing.T) {
	few := []byte{0, 1, 2, 3, 4, 5, 255}
	rows := [][]byte{{}}
	for len(rows[0]) <= 6 {
		var next [][]byte
		for _, b := range rows {
			if want, ok := optionsTold(b); ok {
				wantOptions(t, b, want...)
			} else {
				wantNoOptions(t, b)
			}
			for _, x := range few {
				next = append(next, append(bytes.Clone(b), x))
			}
		}
		rows = next
	}
	// Memory behind the length is no data.
	b := []byte{7, 4, 1, 2, 3, 3}
	for n := range b {
		if want, ok := optionsTold(b[:n]); ok {
			wantOptions(t, b[:n], want...)
		} else {
			wantNoOptions(t, b[:n])
		}
	}
}

// P5.4

// hopTold is what Hop answers of bytes with a TTL above 0 that Parse takes.
func hopTold(b []byte) []byte {
	l := bytes.Clone(b)
	l[8]--
	n := (65535 - int(b[10])*256 - int(b[11])) + (65535 - int(b[8])*256 - int(b[9])) + int(l[8])*256 + int(l[9])
	for n > 65535 {
		n = n%65536 + n/65536
	}
	binary.BigEndian.PutUint16(l[10:], uint16(65535-n))
	return l
}

// wantHop holds what Hop answers against P5.4, and asks whether it is a header
// that is the same but for its TTL.
func wantHop(t *testing.T, what string, b []byte) {
	t.Helper()
	got, e := ip.Hop(b)
	if want := hopTold(b); e != api.OK || !bytes.Equal(got, want) {
		t.Errorf("%s: Hop(% x): % x, error %d, not % x", what, b, got, int(e), want)
		return
	}
	was, size, _ := ip.Parse(b)
	is, n, e := ip.Parse(got)
	was.TTL--
	if e != api.OK || n != size || !same(was, is) || !ip.Right(is) {
		t.Errorf("%s: hopped, % x has the header %v, error %d, not %v", what, b, is, int(e), was)
	}
}

func wantNoHop(t *testing.T, what string, b []byte, e api.Errno) {
	t.Helper()
	if got, f := ip.Hop(b); got != nil || f != e {
		t.Errorf("%s: Hop: % x, error %d, not nothing and %d", what, got, int(f), int(e))
	}
}

func TestHopOfEachTTL(t *testing.T) {
	for _, h := range rights() {
		for ttl := range 256 {
			h.TTL = uint8(ttl)
			b := putTold(h)
			if ttl == 0 {
				wantNoHop(t, "TTL 0", b, api.ErrHeader)
				wantNoHop(t, "TTL 0, with others behind", append(b, 1, 2, 3), api.ErrHeader)
			} else {
				wantHop(t, "TTL above 0", b)
			}
		}
	}
}

// Each ID gives another checksum: all of them come, from 0 to 65534.
func TestHopOfEachChecksum(t *testing.T) {
	for _, ttl := range []uint8{1, 2, 128, 255} {
		seen := make(map[uint16]bool)
		h := withOptions(4)
		h.TTL = ttl
		for id := range 65536 {
			h.ID = uint16(id)
			b := putTold(h)
			c := binary.BigEndian.Uint16(b[10:])
			seen[c] = true
			wantHop(t, "a checksum", b)
			if c == 0 {
				b[10], b[11] = 255, 255
				wantHop(t, "a checksum of 65535 in place of 0", b)
			}
		}
		if len(seen) != 65535 {
			t.Errorf("TTL %d: %d checksums alone", ttl, len(seen))
		}
	}
}

// About its bounds, the checksum that is told is written out here.
func TestHopAboutTheBoundsOfChecksums(t *testing.T) {
	for _, x := range []struct{ was, is uint16 }{
		{0, 256}, {1, 257}, {255, 511}, {256, 512}, {65278, 65534}, {65279, 0}, {65280, 1}, {65533, 254}, {65534, 255}, {65535, 256},
	} {
		h := plain()
		h.ID = 0
		b := putTold(h)
		// The ID is what the sum of words lacks, for the checksum was.
		id := int(binary.BigEndian.Uint16(b[10:])) - int(x.was)
		if id < 0 {
			id += 65535
		}
		binary.BigEndian.PutUint16(b[4:], uint16(id))
		binary.BigEndian.PutUint16(b[10:], x.was)
		wantParse(t, "ahead of the hop", b, api.OK)
		got, e := ip.Hop(b)
		if e != api.OK || binary.BigEndian.Uint16(got[10:]) != x.is {
			t.Errorf("checksum %d: % x, error %d, not %d", x.was, got, int(e), x.is)
		}
		wantHop(t, "about the bounds", b)
	}
}

// All bytes go on, those behind the header and behind Total, too, and bytes
// that end ahead of Total are hopped as they are.
func TestHopOfMoreAndOfFewerBytes(t *testing.T) {
	for _, h := range rights() {
		h.TTL = 7
		b := putTold(h)
		for _, n := range []int{0, 1, 2, 19, 20, 21, 80} {
			wantHop(t, "with others behind", append(bytes.Clone(b), mixed(n, n)...))
		}
		wantHop(t, "with memory behind", append(bytes.Clone(b), mixed(9, 9)...)[:len(b)])
	}
}

func TestHopAgainAndAgain(t *testing.T) {
	for _, h := range rights() {
		h.TTL = 255
		b := append(putTold(h), 1, 2, 3)
		for ttl := 254; ttl >= 0; ttl-- {
			next, e := ip.Hop(b)
			got, _, f := ip.Parse(next)
			want := h
			want.TTL = uint8(ttl)
			if e != api.OK || f != api.OK || !same(got, want) {
				t.Fatalf("TTL %d: %v, errors %d and %d", ttl, got, int(e), int(f))
			}
			b = next
		}
		wantNoHop(t, "at its end", b, api.ErrHeader)
	}
}

// Of bytes that are refused for another reason, that one is told, though the
// TTL is 0, too.
func TestHopOfWhatIsRefused(t *testing.T) {
	wantNoHop(t, "nil", nil, api.ErrShort)
	wantNoHop(t, "noughts", make([]byte, 60), api.ErrVersion)
	for _, ttl := range []uint8{0, 1, 255} {
		for _, d := range defects {
			h := withOptions(4)
			h.TTL = ttl
			b := d.do(putTold(h))
			setCheck(b, 24)
			if d.e == api.ErrChecksum {
				b[10] ^= 1
			}
			wantNoHop(t, d.what, b, d.e)
		}
	}
}

// P5.5

// spoil overwrites all of a slice's memory, what lies behind its length too.
func spoil(b []byte) {
	b = b[:cap(b)]
	for i := range b {
		b[i] ^= 0xff
	}
}

// inside is b amid memory of other bytes, and all of that memory.
func inside(b []byte) (part, all []byte) {
	all = slices.Concat(mixed(9, 1), b, mixed(70, 2))
	return all[9 : 9+len(b)], all
}

// packets are such as are taken, and such as are refused.
func packets() [][]byte {
	var l [][]byte
	for _, h := range rights() {
		if h.Total < 100 {
			l = append(l, append(putTold(h), mixed(80, 5)...))
		}
		l = append(l, putTold(h))
	}
	return append(l, nil, []byte{}, make([]byte, 30), putTold(plain())[:19], mixed(60, 3))
}

func TestOnlyRead(t *testing.T) {
	for _, b := range packets() {
		part, all := inside(b)
		kept := bytes.Clone(all)
		ip.Parse(part)
		ip.Body(part)
		ip.Hop(part)
		ip.Options(part)
		if !bytes.Equal(all, kept) {
			t.Errorf("what was handed in: % x, not % x", all, kept)
		}
	}
	for _, h := range append(rights(), wrongs()...) {
		part, all := inside(h.Options)
		kept := bytes.Clone(all)
		h.Options = part
		ip.Right(h)
		ip.Put(h)
		ip.Same(h, plain())
		ip.Same(plain(), h)
		ip.Same(h, h)
		ip.Options(h.Options)
		if !bytes.Equal(all, kept) {
			t.Errorf("options that were handed in: % x, not % x", all, kept)
		}
	}
	for n := range 12 {
		part, all := inside(slices.Concat([]byte{1}, bytes.Repeat([]byte{7, 3, 9}, n), []byte{0}))
		kept := bytes.Clone(all)
		ip.Options(part)
		if !bytes.Equal(all, kept) {
			t.Errorf("what was handed in: % x, not % x", all, kept)
		}
	}
}

// answers are all that the calls tell of bytes, as a text.
func answers(b []byte) string {
	h, n, e := ip.Parse(b)
	body, f := ip.Body(b)
	hop, g := ip.Hop(b)
	l, k := ip.Options(h.Options)
	return fmt.Sprint(h, n, int(e), body, int(f), hop, int(g), l, int(k))
}

// What is handed in is spoilt behind the call, and so is one answer: the
// others stay.
func TestNewMemory(t *testing.T) {
	for _, b := range packets() {
		want := answers(b)
		part, all := inside(b)
		first, _, _ := ip.Parse(part)
		second, _, _ := ip.Parse(part)
		body, _ := ip.Body(part)
		again, _ := ip.Body(part)
		hop, _ := ip.Hop(part)
		twice, _ := ip.Hop(part)
		kept := fmt.Sprint(first, body, hop)
		spoil(all)
		if got := fmt.Sprint(first, body, hop); got != kept {
			t.Errorf("answers change with what was handed in: %s, not %s", got, kept)
		}
		spoil(first.Options)
		spoil(body)
		spoil(hop)
		if got := fmt.Sprint(second, again, twice); got != kept {
			t.Errorf("answers change with each other: %s, not %s", got, kept)
		}
		spoil(all)
		if got := answers(part); got != want {
			t.Errorf("behind all: %s, not %s", got, want)
		}
	}
}

func TestNewMemoryOfPut(t *testing.T) {
	for _, h := range rights() {
		want := putTold(h)
		part, all := inside(h.Options)
		h.Options = part
		first, _ := ip.Put(h)
		second, _ := ip.Put(h)
		spoil(all)
		if !bytes.Equal(first, want) {
			t.Errorf("Put's answer changes with the options: % x, not % x", first, want)
		}
		spoil(first)
		if !bytes.Equal(second, want) {
			t.Errorf("Put's answers change with each other: % x, not % x", second, want)
		}
	}
}

func TestNewMemoryOfOptions(t *testing.T) {
	b := []byte{7, 3, 9, 8, 4, 1, 2, 1, 9, 2, 10, 6, 3, 4, 5, 6, 0, 3}
	want, _ := optionsTold(b)
	want = slices.Clone(want)
	for i := range want {
		want[i].Data = bytes.Clone(want[i].Data)
	}
	part, all := inside(b)
	first, _ := ip.Options(part)
	second, _ := ip.Options(part)
	kept := bytes.Clone(all)
	for i := range first {
		// What is put behind one option's data lies in no other's.
		first[i].Data = append(first[i].Data, 99)
		spoil(first[i].Data)
		first[i].Kind++
		for j := i + 1; j < len(first); j++ {
			if first[j].Kind != want[j].Kind || !bytes.Equal(first[j].Data, want[j].Data) {
				t.Errorf("option %d changes with option %d: %v", j, i, first[j])
			}
		}
	}
	if !bytes.Equal(all, kept) {
		t.Errorf("what was handed in changes with the options: %v, not %v", all, kept)
	}
	spoil(all)
	if !sameOptions(second, want) {
		t.Errorf("options change with others: %v, not %v", second, want)
	}
}

// P5.6

func TestPutIsParsedAsItWas(t *testing.T) {
	for i, h := range rights() {
		b, e := ip.Put(h)
		if e != api.OK {
			t.Fatalf("Put(%v): error %d", h, int(e))
		}
		for _, tail := range [][]byte{nil, {0}, {255}, make([]byte, 60), mixed(77, i), b} {
			got, n, e := ip.Parse(slices.Concat(b, tail))
			if e != api.OK || n != 20+len(h.Options) || !ip.Same(got, h) || !same(got, h) || !ip.Right(got) {
				t.Errorf("%v is parsed as %v, %d, error %d", h, got, n, int(e))
			}
		}
	}
}

// What is parsed is put as it stood.
func TestParsedIsPutAsItStood(t *testing.T) {
	for seed := range 3000 {
		b := mixed(80, seed)
		size := 20 + seed%11*4
		b[0], b[2], b[6] = byte(64+size/4), b[2]|1, b[6]&127
		setCheck(b, size)
		h, n, e := ip.Parse(b)
		if e != api.OK || n != size || !ip.Right(h) {
			t.Fatalf("Parse(% x): %v, %d, error %d", b, h, n, int(e))
		}
		if got, e := ip.Put(h); e != api.OK || !bytes.Equal(got, b[:size]) {
			t.Errorf("% x is put as % x, error %d", b[:size], got, int(e))
		}
	}
}

func TestEachChangedByteIsTold(t *testing.T) {
	for i, h := range rights() {
		for _, tail := range [][]byte{nil, make([]byte, 60), mixed(60, i), bytes.Repeat([]byte{255}, 60)} {
			b := append(putTold(h), tail...)
			for at := range 20 + len(h.Options) {
				was := b[at]
				for x := 1; x < 256; x++ {
					b[at] = was ^ byte(x)
					if got, _, e := ip.Parse(b); e == api.OK && same(got, h) {
						t.Errorf("%v: with %d in place of %d at %d it is parsed as it was", h, b[at], was, at)
					}
				}
				b[at] = was
			}
			for at := 20 + len(h.Options); at < len(b); at++ {
				b[at]++
				if got, _, e := ip.Parse(b); e != api.OK || !same(got, h) {
					t.Errorf("%v: another byte behind it is told as %v, error %d", h, got, int(e))
				}
			}
		}
	}
}

// A header may be parsed as another one, if its length is changed, and what
// stands behind it happens to keep it whole.
func TestChangedLengthIsParsedAsAnother(t *testing.T) {
	h := plain()
	b := append(putTold(h), 255, 255, 254, 255)
	b[0]++
	got, n, e := ip.Parse(b)
	h.Options = []byte{255, 255, 254, 255}
	if e != api.OK || n != 24 || !same(got, h) {
		t.Errorf("parsed as %v, %d, error %d", got, n, int(e))
	}
}
