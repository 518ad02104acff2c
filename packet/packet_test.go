package packet_test

import (
	"bytes"
	"fmt"
	"math"
	"slices"
	"strings"
	"testing"

	"octroi/addr"
	"octroi/api"
	"octroi/ip"
	"octroi/ipsix"
	"octroi/packet"
	"octroi/trans"
)

// heads are how many bytes stand ahead of the data of protocols' segments;
// all other protocols have none.
var heads = map[uint8]int{1: 4, 6: 20, 17: 8, 58: 4}

// mixed is a row of n bytes without a plain order.
func mixed(n, seed int) []byte {
	b := make([]byte, n)
	x := uint32(seed)*2654435761 + 12345
	for i := range b {
		x = x*1664525 + 1013904223
		b[i] = byte(x >> 24)
	}
	return b
}

// address is the one that a text tells.
func address(s string) addr.Addr {
	a, e := addr.Parse(s)
	if e != api.OK {
		panic("the test itself tells no address: " + s)
	}
	return a
}

// key is the one of these parts.
func key(proto uint8, src string, srcPort uint16, dst string, dstPort uint16) packet.Key {
	return packet.Key{Src: address(src), Dst: address(dst), Proto: proto, SrcPort: srcPort, DstPort: dstPort}
}

// pairs are the texts of two addresses of as many bytes.
func pairs() [][2]string {
	return [][2]string{
		{"10.0.0.1", "10.0.0.2"}, {"0.0.0.0", "0.0.0.0"}, {"255.255.255.255", "255.255.255.255"}, {"1.2.3.4", "4.3.2.1"},
		{"::1", "::2"}, {"::", "::"}, {"2001:db8::1:0:0:1", "fe80::1"}, {"1:2:3:4:5:6:7:8", "8:7:6:5:4:3:2:1"},
		{"ffff:ffff:ffff:ffff:ffff:ffff:ffff:ffff", "::a00:1"}, {"a00:1::", "a00:2::"},
	}
}

// ports are the two that a key of a protocol may have.
func ports(proto uint8) [][2]uint16 {
	switch proto {
	case 6, 17:
		return [][2]uint16{{0, 0}, {0, 1}, {1, 0}, {5, 80}, {256, 255}, {65535, 65535}}
	case 1, 58:
		return [][2]uint16{{0, 0}, {0, 1}, {0, 255}, {0, 256}, {0, 2048}, {0, 33023}, {0, 65535}}
	}
	return [][2]uint16{{0, 0}}
}

// rights are keys that are right, of each protocol.
func rights() []packet.Key {
	var l []packet.Key
	for proto := range 256 {
		for _, a := range pairs() {
			for _, p := range ports(uint8(proto)) {
				l = append(l, key(uint8(proto), a[0], p[0], a[1], p[1]))
			}
		}
	}
	return l
}

// wrongs are keys that are not right.
func wrongs() []packet.Key {
	var l []packet.Key
	for proto := range 256 {
		for _, a := range pairs() {
			switch proto {
			case 6, 17:
			case 1, 58:
				l = append(l, key(uint8(proto), a[0], 1, a[1], 2048), key(uint8(proto), a[0], 32768, a[1], 0))
			default:
				l = append(l, key(uint8(proto), a[0], 1, a[1], 0), key(uint8(proto), a[0], 0, a[1], 1), key(uint8(proto), a[0], 256, a[1], 256))
			}
		}
		l = append(l, key(uint8(proto), "1.2.3.4", 0, "::1", 0), key(uint8(proto), "::1", 0, "1.2.3.4", 0))
		for at := 4; at < 16; at++ {
			k := key(uint8(proto), "1.2.3.4", 0, "1.2.3.5", 0)
			k.Src.B[at] = 1
			o := key(uint8(proto), "1.2.3.4", 0, "1.2.3.5", 0)
			o.Dst.B[at] = 128
			l = append(l, k, o)
		}
	}
	return l
}

// bytesTold are the bytes of a key that is right, as 'Words' tells them.
func bytesTold(k packet.Key) []byte {
	tail := []byte{k.Proto, byte(k.SrcPort / 256), byte(k.SrcPort % 256), byte(k.DstPort / 256), byte(k.DstPort % 256)}
	if k.Src.Six {
		return slices.Concat([]byte{6}, k.Src.B[:], k.Dst.B[:], tail)
	}
	return slices.Concat([]byte{4}, k.Src.B[:4], k.Dst.B[:4], tail)
}

// textTold is the text of a key that is right.
func textTold(k packet.Key) string {
	return fmt.Sprintf("%d %s %d %s %d", k.Proto, k.Src.Text(), k.SrcPort, k.Dst.Text(), k.DstPort)
}

// addrOf is the address of four or of sixteen bytes.
func addrOf(b []byte) addr.Addr {
	a := addr.Addr{Six: len(b) == 16}
	copy(a.B[:], b)
	return a
}

// two is the number of two bytes.
func two(b []byte, at int) int { return int(b[at])*256 + int(b[at+1]) }

// fragmentTold is what the first header of the kind 44 says in a packet of
// IPv6 whose chain may be: its offset, and whether more come.
func fragmentTold(b []byte) (offset int, more bool) {
	at, next := 40, b[6]
	for next == 0 || next == 43 || next == 60 {
		next, at = b[at], at+8+8*int(b[at+1])
	}
	if next != 44 {
		return 0, false
	}
	return two(b, at+2) / 8, b[at+3]%2 == 1
}

// parseTold is what Parse answers, as 'Words' and P8.2 tell it, read from the
// bytes one by one; of lower chapters it takes bodies, and errors.
func parseTold(b []byte) (packet.Packet, api.Errno) {
	var p packet.Packet
	var body []byte
	var offset int
	var more bool
	var e api.Errno
	switch {
	case len(b) > 2048:
		return p, api.ErrLimit
	case len(b) == 0:
		return p, api.ErrShort
	case b[0]/16 == 4:
		if body, e = ip.Body(b); e != api.OK {
			return p, e
		}
		p.Key = packet.Key{Src: addrOf(b[12:16]), Dst: addrOf(b[16:20]), Proto: b[9]}
		p.Length = two(b, 2)
		offset, more = two(b, 6)%8192, b[6]/32%2 == 1
	case b[0]/16 == 6:
		var c ipsix.Chain
		if _, c, body, e = ipsix.Body(b); e != api.OK {
			return p, e
		}
		p.Key = packet.Key{Src: addrOf(b[8:24]), Dst: addrOf(b[24:40]), Proto: c.Proto}
		p.Length = 40 + two(b, 4)
		offset, more = fragmentTold(b)
	default:
		return p, api.ErrVersion
	}
	if p.Fragment = offset > 0; p.Fragment {
		return p, api.OK
	}
	if more {
		return firstTold(p, body)
	}
	return wholeTold(p, body)
}

// firstTold is a first fragment.
func firstTold(p packet.Packet, body []byte) (packet.Packet, api.Errno) {
	least := map[uint8]int{6: 4, 17: 4, 1: 2, 58: 2}[p.Key.Proto]
	if len(body) < least {
		return packet.Packet{}, api.ErrShort
	}
	lay(&p, body, least)
	if p.Key.Proto == 6 && len(body) >= 14 {
		p.Flags = body[13]
	}
	return p, api.OK
}

// wholeTold is a packet that is whole.
func wholeTold(p packet.Packet, body []byte) (packet.Packet, api.Errno) {
	if heads[p.Key.Proto] == 0 {
		return p, api.OK
	}
	s, e := trans.Parse(p.Key.Proto, body)
	if e != api.OK {
		return packet.Packet{}, e
	}
	lay(&p, body, map[uint8]int{6: 4, 17: 4, 1: 2, 58: 2}[p.Key.Proto])
	p.Flags = s.Flags
	return p, api.OK
}

// lay lays what so many bytes of a body tell into a key.
func lay(p *packet.Packet, body []byte, n int) {
	switch n {
	case 4:
		p.Key.SrcPort, p.Key.DstPort = uint16(two(body, 0)), uint16(two(body, 2))
	case 2:
		p.Key.DstPort = uint16(body[0])*256 + uint16(body[1])
	}
}

// wantParse holds what Parse answers against P8.2; its error, which the test
// knows as well, is held against both.
func wantParse(t *testing.T, b []byte, want api.Errno) packet.Packet {
	t.Helper()
	told, e := parseTold(b)
	if e != want {
		t.Fatalf("the test itself tells %d, not %d: % x (%d bytes)", int(e), int(want), b[:min(len(b), 80)], len(b))
	}
	p, f := packet.Parse(b)
	if f != want || p != told {
		t.Errorf("Parse(% x (%d bytes)): %+v, error %d, not %+v, error %d", b[:min(len(b), 80)], len(b), p, int(f), told, int(want))
	}
	if f != api.OK && p != (packet.Packet{}) {
		t.Errorf("Parse(..): error %d, and %+v", int(f), p)
	}
	return p
}

// wantParseAsTold is the same, for bytes of which the test does not know more.
func wantParseAsTold(t *testing.T, b []byte) {
	t.Helper()
	_, e := parseTold(b)
	wantParse(t, b, e)
}

// four is a packet of IPv4 with that body.
func four(h ip.Header, body []byte) []byte {
	h.Total = uint16(20 + len(h.Options) + len(body))
	h.Src, h.Dst = [4]byte{10, 0, 0, 1}, [4]byte{10, 0, 0, 2}
	b, e := ip.Put(h)
	if e != api.OK {
		panic(e)
	}
	return append(b, body...)
}

// six is a packet of IPv6 with that chain, and that body.
func six(c ipsix.Chain, body []byte) []byte {
	chain, first, e := ipsix.PutChain(c)
	if e != api.OK {
		panic(e)
	}
	h := ipsix.Header{Length: uint16(len(chain) + len(body)), Next: first, Hops: 3, Src: [16]byte{15: 1}, Dst: [16]byte{15: 2}}
	b, e := ipsix.Put(h)
	if e != api.OK {
		panic(e)
	}
	return slices.Concat(b, chain, body)
}

// fragment is a header of the kind 44.
func fragment(offset int, more bool) ipsix.Ext {
	x := ipsix.Ext{Kind: 44, Data: []byte{byte(offset / 32), byte(offset % 32 * 8), 0, 0, 0, 9}}
	if more {
		x.Data[1]++
	}
	return x
}

// segment is an ordinary one of a protocol with n bytes of data, as it stands.
func segment(proto uint8, n int) []byte {
	b := mixed(heads[proto]+n, n+1)
	switch proto {
	case 6:
		b[12], b[13] = 0x50, 0x12
	case 17:
		b[4], b[5] = byte(len(b)/256), byte(len(b)%256)
	}
	return b
}

// both are the packets of a body in both versions, as a fragment at an offset:
// in IPv6 there is none, if its protocol is a header's kind and it is not a
// later one.
func both(proto uint8, offset int, more bool, body []byte) [][]byte {
	l := [][]byte{four(ip.Header{Proto: proto, Frag: uint16(offset), MF: more}, body)}
	if c := (ipsix.Chain{Exts: []ipsix.Ext{fragment(offset, more)}, Proto: proto}); ipsix.Right(c) {
		l = append(l, six(c, body))
	}
	return l
}

func TestExamples(t *testing.T) {
	for _, x := range []struct {
		text  string
		flags uint8
		data  int
		want  int
	}{
		{"6 10.0.0.1 5 10.0.0.2 80", 2, 0, 40},
		{"1 10.0.0.1 0 10.0.0.2 2048", 0, 8, 32},
		{"17 ::1 9 ::2 53", 0, 1, 49},
	} {
		k, e := packet.Read(x.text)
		if e != api.OK {
			t.Fatalf("%s: error %d", x.text, int(e))
		}
		b, e := packet.Put(packet.Spec{Key: k, Flags: x.flags, Data: x.data})
		if e != api.OK || len(b) != x.want {
			t.Fatalf("%s: % x, error %d", x.text, b, int(e))
		}
		if p := wantParse(t, b, api.OK); p != (packet.Packet{Key: k, Length: x.want, Flags: x.flags}) {
			t.Errorf("%s: %+v", x.text, p)
		}
		if x.want == 32 && (b[20] != 8 || b[21] != 0) {
			t.Errorf("%s: % x", x.text, b)
		}
	}
	for _, s := range []string{"6 10.0.0.1 05 10.0.0.2 80", "1 ::1 1 ::1 0"} {
		if k, e := packet.Read(s); e != api.ErrText || k != (packet.Key{}) {
			t.Errorf("Read(%s): %+v, error %d", s, k, int(e))
		}
	}
}

func TestKnownKeys(t *testing.T) {
	for _, x := range []struct {
		k    packet.Key
		text string
		want []byte
	}{
		{key(6, "10.0.0.1", 5, "10.0.0.2", 80), "6 10.0.0.1 5 10.0.0.2 80", []byte{4, 10, 0, 0, 1, 10, 0, 0, 2, 6, 0, 5, 0, 80}},
		{key(1, "1.2.3.4", 0, "255.0.0.9", 2048), "1 1.2.3.4 0 255.0.0.9 2048", []byte{4, 1, 2, 3, 4, 255, 0, 0, 9, 1, 0, 0, 8, 0}},
		{packet.Key{}, "0 0.0.0.0 0 0.0.0.0 0", make([]byte, 14)},
		{key(17, "::1", 65535, "1:2:3:4:5:6:7:8", 258), "17 ::1 65535 1:2:3:4:5:6:7:8 258",
			[]byte{6, 0, 0, 0, 0, 0, 0, 0, 0, 0, 0, 0, 0, 0, 0, 0, 1, 0, 1, 0, 2, 0, 3, 0, 4, 0, 5, 0, 6, 0, 7, 0, 8, 17, 255, 255, 1, 2}},
		{key(255, "2001:DB8:0:0:1:0:0:1", 0, "::", 0), "255 2001:db8::1:0:0:1 0 :: 0",
			append([]byte{6, 0x20, 1, 0x0d, 0xb8, 0, 0, 0, 0, 0, 1, 0, 0, 0, 0, 0, 1}, append(make([]byte, 16), 255, 0, 0, 0, 0)...)},
	} {
		if x.k == (packet.Key{}) {
			x.want[0] = 4
		}
		if !x.k.Right() || !bytes.Equal(x.k.Bytes(), x.want) || x.k.Text() != x.text {
			t.Errorf("%+v: %v, % x, %q, not % x, %q", x.k, x.k.Right(), x.k.Bytes(), x.k.Text(), x.want, x.text)
		}
		if k, e := packet.Read(x.text); e != api.OK || k != x.k {
			t.Errorf("Read(%q): %+v, error %d", x.text, k, int(e))
		}
	}
}

func TestKeysThatAreRight(t *testing.T) {
	texts, rows := map[string]packet.Key{}, map[string]packet.Key{}
	for _, k := range rights() {
		if !k.Right() {
			t.Fatalf("not right: %+v", k)
		}
		if b := k.Bytes(); !bytes.Equal(b, bytesTold(k)) {
			t.Fatalf("%+v: % x, not % x", k, b, bytesTold(k))
		}
		if s := k.Text(); s != textTold(k) {
			t.Fatalf("%+v: %q, not %q", k, s, textTold(k))
		}
		if o, e := packet.Read(k.Text()); e != api.OK || o != k {
			t.Fatalf("%+v is read as %+v, error %d", k, o, int(e))
		}
		if o, ok := texts[k.Text()]; ok && o != k {
			t.Fatalf("%+v and %+v have the same text", o, k)
		}
		if o, ok := rows[string(k.Bytes())]; ok && o != k {
			t.Fatalf("%+v and %+v have the same bytes", o, k)
		}
		texts[k.Text()], rows[string(k.Bytes())] = k, k
	}
	if len(texts) != len(rows) {
		t.Errorf("%d texts, %d rows", len(texts), len(rows))
	}
}

func TestKeysThatAreNotRight(t *testing.T) {
	for _, k := range wrongs() {
		if k.Right() || k.Bytes() != nil || k.Text() != "" {
			t.Fatalf("%+v: %v, % x, %q", k, k.Right(), k.Bytes(), k.Text())
		}
		if b, e := packet.Put(packet.Spec{Key: k}); e != api.ErrArg || b != nil {
			t.Fatalf("Put of %+v: % x, error %d", k, b, int(e))
		}
	}
}

func TestRightOfEachPort(t *testing.T) {
	for proto := range 256 {
		for _, src := range []uint16{0, 1, 255, 256, 65535} {
			for _, dst := range []uint16{0, 1, 255, 256, 65535} {
				want := src == 0 && dst == 0
				switch proto {
				case 6, 17:
					want = true
				case 1, 58:
					want = src == 0
				}
				for _, a := range pairs() {
					if k := key(uint8(proto), a[0], src, a[1], dst); k.Right() != want {
						t.Fatalf("Right of %+v is not %v", k, want)
					}
				}
			}
		}
	}
}

func TestReadOfWrongTexts(t *testing.T) {
	l := []string{
		"", " ", "    ", "6", "6 10.0.0.1", "6 10.0.0.1 5", "6 10.0.0.1 5 10.0.0.2", "6 10.0.0.1 5 10.0.0.2 ",
		" 6 10.0.0.1 5 10.0.0.2 80", "6 10.0.0.1 5 10.0.0.2 80 ", "6  10.0.0.1 5 10.0.0.2 80", "6 10.0.0.1 5 10.0.0.2  80",
		"6 10.0.0.1 5 10.0.0.2 80 1", "6\t10.0.0.1 5 10.0.0.2 80", "6 10.0.0.1 5 10.0.0.2 80\n", "6,10.0.0.1,5,10.0.0.2,80",
		"06 10.0.0.1 5 10.0.0.2 80", "6 10.0.0.1 5 10.0.0.2 080", "6 10.0.0.1 5 10.0.0.2 00", "+6 10.0.0.1 5 10.0.0.2 80",
		"6 10.0.0.1 +5 10.0.0.2 80", "6 10.0.0.1 5 10.0.0.2 +80", "-6 10.0.0.1 5 10.0.0.2 80", "6 10.0.0.1 -5 10.0.0.2 80",
		"6 10.0.0.1 5 10.0.0.2 -0", "0x6 10.0.0.1 5 10.0.0.2 80", "6 10.0.0.1 5 10.0.0.2 0x50", "6 10.0.0.1 5 10.0.0.2 8_0",
		"256 10.0.0.1 0 10.0.0.2 0", "262 10.0.0.1 5 10.0.0.2 80", "6 10.0.0.1 65536 10.0.0.2 80", "6 10.0.0.1 5 10.0.0.2 65536",
		"6 10.0.0.1 5 10.0.0.2 18446744073709551696", "tcp 10.0.0.1 5 10.0.0.2 80", "6 10.0.0.1 a 10.0.0.2 80", "6 10.0.0.1 5 10.0.0.2 http",
		"6 010.0.0.1 5 10.0.0.2 80", "6 10.0.0 5 10.0.0.2 80", "6 10.0.0.256 5 10.0.0.2 80", "6 10.0.0.1 5 10.0.0.2/32 80", "6 10.0.0.1 5 x 80",
		"6 10.0.0.1 5 ::2 80", "6 ::1 5 10.0.0.2 80", "6 ::1 5 ::B 80", "6 ::1 5 0::2 80", "6 ::1 5 0:0:0:0:0:0:0:2 80", "6 ::0 5 ::2 80",
		"6 1:2::4:5:6:7:8 5 ::2 80", "6 ::01 5 ::2 80", "6 ::10.0.0.1 5 ::2 80",
		"1 10.0.0.1 1 10.0.0.2 2048", "58 ::1 1 ::2 32768", "2 10.0.0.1 0 10.0.0.2 1", "2 10.0.0.1 1 10.0.0.2 0", "44 ::1 0 ::2 5",
		"6 10.0.0.1 5 10.0.0.2 80\x00", "\x006 10.0.0.1 5 10.0.0.2 80", "\xff\xfe", "\uff16 10.0.0.1 5 10.0.0.2 80", "6\u00a010.0.0.1 5 10.0.0.2 80",
		strings.Repeat(" ", 1<<20), strings.Repeat("6 ", 1<<20), strings.Repeat("9", 1<<20) + " 10.0.0.1 5 10.0.0.2 80",
		"6 " + strings.Repeat(":", 1<<20) + " 5 ::2 80", "6 10.0.0.1 " + strings.Repeat("0", 1<<20) + "5 10.0.0.2 80",
	}
	for _, s := range l {
		if k, e := packet.Read(s); e != api.ErrText || k != (packet.Key{}) {
			t.Errorf("Read(%.60q): %+v, error %d", s, k, int(e))
		}
	}
}

// Each text that is read is a key's own: so no text is left that differs from
// one in a sign, and is read as the same key.
func TestReadOfTextsAlmostRight(t *testing.T) {
	signs := "0123456789abcdefABCDEF.:/ +-_xg\t\n\x00\xff"
	read, refused := 0, 0
	check := func(s string, k packet.Key) {
		o, e := packet.Read(s)
		switch {
		case e == api.OK:
			read++
			if !o.Right() || textTold(o) != s || s != k.Text() && o == k {
				t.Fatalf("Read(%q): %+v", s, o)
			}
		case e != api.ErrText || o != packet.Key{}:
			t.Fatalf("Read(%q): %+v, error %d", s, o, int(e))
		default:
			refused++
		}
	}
	for _, k := range []packet.Key{
		key(6, "10.0.0.1", 5, "10.0.0.2", 80), key(17, "2001:db8::1:0:0:1", 65535, "::", 0),
		key(58, "1:2:3:4:5:6:7:8", 0, "fe80::1", 33024), key(255, "255.255.255.255", 0, "0.0.0.0", 0),
	} {
		s := k.Text()
		check(s, k)
		for i := range len(s) + 1 {
			for j := range len(signs) {
				check(s[:i]+signs[j:j+1]+s[i:], k)
				if i < len(s) {
					check(s[:i]+signs[j:j+1]+s[i+1:], k)
				}
			}
			if i < len(s) {
				check(s[:i]+s[i+1:], k)
			}
		}
	}
	if read < 100 || refused < 100 {
		t.Errorf("%d were read, %d refused", read, refused)
	}
}

func TestCmp(t *testing.T) {
	var l []packet.Key
	for i, k := range append(rights(), wrongs()...) {
		if i%37 == 0 || k.Proto < 8 && i%11 == 0 {
			l = append(l, k)
		}
	}
	l = append(l, packet.Key{}, key(6, "10.0.0.1", 5, "10.0.0.2", 80), key(6, "10.0.0.1", 5, "10.0.0.2", 81), key(6, "10.0.0.1", 256, "10.0.0.2", 80))
	told := func(k packet.Key) []byte {
		if !k.Right() {
			return nil
		}
		return bytesTold(k)
	}
	for _, a := range l {
		for _, b := range l {
			x, y := told(a), told(b)
			want := 0
			for i := 0; want == 0 && (i < len(x) || i < len(y)); i++ {
				switch {
				case i >= len(x) || i < len(y) && x[i] < y[i]:
					want = -1
				case i >= len(y) || x[i] > y[i]:
					want = 1
				}
			}
			if got := packet.Cmp(a, b); got != want {
				t.Fatalf("Cmp(%+v, %+v): %d, not %d", a, b, got, want)
			}
			if a.Right() && b.Right() && (a == b) != (want == 0) {
				t.Fatalf("%+v and %+v: equal is %v, Cmp %d", a, b, a == b, want)
			}
		}
	}
}

func TestOrderOfKeys(t *testing.T) {
	twisted := key(1, "1.2.3.4", 7, "1.2.3.4", 0)
	l := []packet.Key{
		twisted,
		{},
		key(1, "0.0.0.0", 0, "0.0.0.0", 255),
		key(1, "0.0.0.0", 0, "0.0.0.0", 256),
		key(6, "0.0.0.0", 0, "0.0.0.0", 256),
		key(6, "0.0.0.0", 1, "0.0.0.0", 0),
		key(6, "0.0.0.0", 256, "0.0.0.0", 0),
		key(0, "0.0.0.0", 0, "0.0.0.1", 0),
		key(255, "0.0.0.1", 0, "0.0.0.0", 0),
		key(0, "1.0.0.0", 0, "0.0.0.0", 0),
		key(6, "255.255.255.255", 65535, "255.255.255.255", 65535),
		key(0, "::", 0, "::", 0),
		key(0, "::", 0, "::1", 0),
		key(0, "::1", 0, "::", 0),
	}
	for i, a := range l {
		for j, b := range l {
			want := 0
			if i < j {
				want = -1
			} else if i > j {
				want = 1
			}
			if got := packet.Cmp(a, b); got != want {
				t.Errorf("Cmp(%+v, %+v): %d, not %d", a, b, got, want)
			}
		}
	}
	if packet.Cmp(twisted, key(2, "::1", 1, "1.2.3.4", 5)) != 0 {
		t.Error("keys that are not right have no bytes, and so the same")
	}
}

func TestParseOfNothingAndOfTooMuch(t *testing.T) {
	wantParse(t, nil, api.ErrShort)
	wantParse(t, []byte{}, api.ErrShort)
	wantParse(t, make([]byte, 2048), api.ErrVersion)
	for _, n := range []int{2049, 2050, 4096, 65536, 1 << 20} {
		wantParse(t, make([]byte, n), api.ErrLimit)
		b := mixed(n, n)
		for _, first := range []byte{0x45, 0x60, 0x10} {
			b[0] = first
			wantParse(t, b, api.ErrLimit)
		}
	}
	for _, row := range both(17, 0, false, segment(17, 5)) {
		tail := make([]byte, 2048-len(row))
		wantParse(t, append(row, tail...), api.OK)
		wantParse(t, append(row, make([]byte, len(tail)+1)...), api.ErrLimit)
	}
}

func TestParseOfEachVersion(t *testing.T) {
	for first := range 256 {
		for _, n := range []int{1, 2, 19, 20, 39, 40, 100, 2048} {
			b := mixed(n, n)
			b[0] = byte(first)
			wantParseAsTold(t, b)
			if first/16 != 4 && first/16 != 6 {
				wantParse(t, b, api.ErrVersion)
			}
		}
	}
	wantParse(t, []byte{0x4f}, api.ErrShort)
	wantParse(t, []byte{0x6f}, api.ErrShort)
	wantParse(t, []byte{0x5f}, api.ErrVersion)
}

func TestParseOfHeaders(t *testing.T) {
	row := four(ip.Header{Proto: 6, Options: []byte{1, 1, 1, 0}}, segment(6, 3))
	wantParse(t, row, api.OK)
	for i := range len(row) {
		wantParse(t, row[:i], api.ErrShort)
	}
	spoilt := slices.Clone(row)
	spoilt[8]++
	wantParse(t, spoilt, api.ErrChecksum)
	wantParse(t, spoilt[:30], api.ErrChecksum)
	spoilt = slices.Clone(row)
	spoilt[0] = 0x44
	wantParse(t, spoilt, api.ErrHeader)

	row = six(ipsix.Chain{Exts: []ipsix.Ext{{Kind: 0, Data: make([]byte, 6)}, {Kind: 60, Data: make([]byte, 14)}}, Proto: 6}, segment(6, 3))
	wantParse(t, row, api.OK)
	for i := range len(row) {
		wantParse(t, row[:i], api.ErrShort)
	}
	row[40] = 0
	wantParse(t, row, api.ErrChain)
	row[40], row[41] = 60, 255
	wantParse(t, row, api.ErrShort)
}

func TestParseOfKnownPackets(t *testing.T) {
	tcp := []byte{0, 5, 0, 80, 1, 2, 3, 4, 5, 6, 7, 8, 0x60, 0xd2, 1, 0, 0, 0, 0, 0, 1, 1, 1, 0, 9}
	udp := []byte{1, 0, 0, 53, 0, 9, 0, 0, 7}
	icmp := []byte{11, 1, 0, 0, 9}
	for _, x := range []struct {
		proto uint8
		body  []byte
		ports [2]uint16
		flags uint8
	}{
		{6, tcp, [2]uint16{5, 80}, 0xd2}, {17, udp, [2]uint16{256, 53}, 0}, {1, icmp, [2]uint16{0, 2817}, 0}, {58, icmp, [2]uint16{0, 2817}, 0},
		{2, tcp, [2]uint16{}, 0}, {0, udp, [2]uint16{}, 0}, {255, icmp, [2]uint16{}, 0}, {7, nil, [2]uint16{}, 0},
	} {
		want := packet.Packet{Key: key(x.proto, "10.0.0.1", x.ports[0], "10.0.0.2", x.ports[1]), Length: 24 + len(x.body), Flags: x.flags}
		if got := wantParse(t, four(ip.Header{Proto: x.proto, TOS: 3, ID: 9, DF: true, TTL: 1, Options: []byte{1, 1, 1, 1}}, x.body), api.OK); got != want {
			t.Errorf("%d: %+v, not %+v", x.proto, got, want)
		}
		if x.proto == 0 {
			continue
		}
		want.Key = key(x.proto, "::1", x.ports[0], "::2", x.ports[1])
		want.Length = 40 + 8 + 16 + len(x.body)
		c := ipsix.Chain{Exts: []ipsix.Ext{{Kind: 0, Data: make([]byte, 6)}, {Kind: 43, Data: make([]byte, 14)}}, Proto: x.proto}
		if got := wantParse(t, six(c, x.body), api.OK); got != want {
			t.Errorf("%d: %+v, not %+v", x.proto, got, want)
		}
	}
}

func TestParseOfWholePackets(t *testing.T) {
	for proto := range 256 {
		for n := range 45 {
			for seed := range 3 {
				body := mixed(n, seed*45+n)
				if n > 12 {
					body[12] = 0x50
				}
				if n > 5 && seed == 0 {
					body[4], body[5] = 0, byte(n)
				}
				wantParseAsTold(t, four(ip.Header{Proto: uint8(proto)}, body))
				if c := (ipsix.Chain{Proto: uint8(proto)}); ipsix.Right(c) {
					wantParseAsTold(t, six(c, body))
				}
			}
		}
	}
}

func TestParseTellsTheSegmentsError(t *testing.T) {
	for proto, head := range heads {
		for n := range head {
			for _, row := range both(proto, 0, false, segment(proto, 9)[:n]) {
				wantParse(t, row, api.ErrShort)
			}
			wantParse(t, six(ipsix.Chain{Proto: proto}, segment(proto, 9)[:n]), api.ErrShort)
		}
		for _, row := range both(proto, 0, false, segment(proto, 0)) {
			wantParse(t, row, api.OK)
		}
	}
	body := segment(6, 9)
	for x := range 16 {
		body[12] = byte(x) * 16
		want := api.OK
		if x < 5 {
			want = api.ErrHeader
		} else if x*4 > len(body) {
			want = api.ErrShort
		}
		for _, row := range both(6, 0, false, body) {
			wantParse(t, row, want)
		}
	}
	body = segment(17, 9)
	for x := range 65536 {
		body[4], body[5] = byte(x/256), byte(x%256)
		want := api.OK
		if x < 8 {
			want = api.ErrHeader
		} else if x > len(body) {
			want = api.ErrShort
		}
		if x > 300 && x%99 > 0 {
			continue
		}
		for _, row := range both(17, 0, false, body) {
			wantParse(t, row, want)
		}
	}
}

// Of a first fragment no more is asked for than what tells its flow: its
// lengths tell of what later ones have.
func TestParseOfFirstFragments(t *testing.T) {
	for proto := range 256 {
		least := map[int]int{6: 4, 17: 4, 1: 2, 58: 2}[proto]
		for n := range 40 {
			body := mixed(n, n+proto)
			for _, row := range both(uint8(proto), 0, true, body) {
				if n < least {
					wantParse(t, row, api.ErrShort)
					continue
				}
				p := wantParse(t, row, api.OK)
				want := uint8(0)
				if proto == 6 && n >= 14 {
					want = body[13]
				}
				if p.Fragment || p.Flags != want || p.Length != len(row) || !p.Key.Right() {
					t.Fatalf("%d, %d bytes: %+v", proto, n, p)
				}
			}
		}
	}
}

func TestFlagsOfFirstFragments(t *testing.T) {
	for f := range 256 {
		body := make([]byte, 14)
		body[1], body[3], body[13] = 5, 80, byte(f)
		for _, row := range both(6, 0, true, body) {
			if p := wantParse(t, row, api.OK); p.Flags != uint8(f) || p.Key.SrcPort != 5 || p.Key.DstPort != 80 {
				t.Errorf("%+v", p)
			}
		}
		for _, proto := range []uint8{1, 17, 58, 7} {
			for _, row := range both(proto, 0, true, body) {
				if p := wantParse(t, row, api.OK); p.Flags != 0 {
					t.Errorf("%+v", p)
				}
			}
		}
		for _, row := range both(6, 0, true, body[:13]) {
			if p := wantParse(t, row, api.OK); p.Flags != 0 || p.Key.DstPort != 80 {
				t.Errorf("%+v", p)
			}
		}
	}
}

func TestParseOfLaterFragments(t *testing.T) {
	for proto := range 256 {
		for _, offset := range []int{1, 2, 31, 32, 255, 4096, 8191} {
			for _, more := range []bool{false, true} {
				for _, n := range []int{0, 1, 8, 40} {
					for _, row := range both(uint8(proto), offset, more, mixed(n, n+1)) {
						p := wantParse(t, row, api.OK)
						want := packet.Packet{Key: key(uint8(proto), "10.0.0.1", 0, "10.0.0.2", 0), Length: len(row), Fragment: true}
						if row[0] == 0x60 {
							want.Key = key(uint8(proto), "::1", 0, "::2", 0)
						}
						if p != want || !p.Key.Right() {
							t.Fatalf("%+v, not %+v", p, want)
						}
					}
				}
			}
		}
	}
}

// A fragment's first header is what tells of a packet with several ones; that
// one tells nothing is a packet that is whole.
func TestParseOfSeveralFragments(t *testing.T) {
	body := segment(6, 3)
	whole := packet.Packet{Key: key(6, "::1", uint16(two(body, 0)), "::2", uint16(two(body, 2))), Flags: 0x12}
	later := packet.Packet{Key: key(6, "::1", 0, "::2", 0), Fragment: true}
	hop := ipsix.Ext{Kind: 0, Data: make([]byte, 6)}
	for i, x := range []struct {
		exts []ipsix.Ext
		body []byte
		want packet.Packet
		e    api.Errno
	}{
		{[]ipsix.Ext{fragment(0, false)}, body, whole, api.OK},
		{[]ipsix.Ext{fragment(0, false)}, body[:19], packet.Packet{}, api.ErrShort},
		{[]ipsix.Ext{fragment(0, true)}, body[:19], whole, api.OK},
		{[]ipsix.Ext{hop, fragment(7, false)}, body, later, api.OK},
		{[]ipsix.Ext{fragment(0, false), fragment(7, true)}, body, whole, api.OK},
		{[]ipsix.Ext{fragment(0, false), fragment(7, true)}, body[:19], packet.Packet{}, api.ErrShort},
		{[]ipsix.Ext{fragment(0, true), fragment(7, false)}, body[:19], whole, api.OK},
		{[]ipsix.Ext{fragment(0, true), fragment(0, false)}, body[:19], whole, api.OK},
		{[]ipsix.Ext{fragment(0, false), fragment(0, true)}, body[:19], packet.Packet{}, api.ErrShort},
		{[]ipsix.Ext{fragment(0, true), fragment(7, false)}, body[:3], packet.Packet{}, api.ErrShort},
	} {
		row := six(ipsix.Chain{Exts: x.exts, Proto: 6}, x.body)
		if x.e == api.OK {
			x.want.Length = len(row)
		}
		if p := wantParse(t, row, x.e); p != x.want {
			t.Errorf("%d: %+v, not %+v", i, p, x.want)
		}
	}
	for _, proto := range []uint8{0, 43, 44, 60} {
		row := six(ipsix.Chain{Exts: []ipsix.Ext{fragment(0, false), fragment(7, false)}, Proto: proto}, body)
		if p := wantParse(t, row, api.OK); p != (packet.Packet{Key: key(proto, "::1", 0, "::2", 0), Length: len(row)}) {
			t.Errorf("%+v", p)
		}
	}
}

func TestParseOfEachFragmentWord(t *testing.T) {
	body := segment(6, 3)
	for x := 0; x < 65536; x += 1 + x/64 {
		h := ip.Header{Proto: 6, Frag: uint16(x % 8192), MF: x&8192 != 0, DF: x&16384 != 0}
		wantParseAsTold(t, four(h, body))
		wantParseAsTold(t, four(h, body[:13]))
		row := six(ipsix.Chain{Exts: []ipsix.Ext{fragment(0, false)}, Proto: 6}, body)
		row[42], row[43] = byte(x/256), byte(x%256)
		wantParseAsTold(t, row)
		if x&6 != 0 {
			wantParse(t, row, api.ErrChain)
		}
	}
}

// Chapter 7's checksums are not looked at, and what stands behind a packet,
// or behind UDP's bytes, is not either.
func TestParseLooksAtNoMore(t *testing.T) {
	for proto := range heads {
		sumAt := map[uint8]int{1: 2, 6: 16, 17: 6, 58: 2}[proto]
		for _, row := range both(proto, 0, false, segment(proto, 3)) {
			want := wantParse(t, row, api.OK)
			at := want.Length - heads[proto] - 3 + sumAt
			for _, c := range []byte{0, 1, 128, 255} {
				b := slices.Clone(row)
				b[at], b[at+1] = c, ^c
				if got := wantParse(t, b, api.OK); got != want {
					t.Errorf("%+v, not %+v", got, want)
				}
			}
			for _, n := range []int{1, 2, 40, 1500} {
				if got := wantParse(t, append(slices.Clip(row), mixed(n, n)...), api.OK); got != want {
					t.Errorf("with %d bytes behind: %+v, not %+v", n, got, want)
				}
			}
		}
	}
	for _, row := range both(17, 0, false, append(segment(17, 3), mixed(9, 1)...)) {
		if p := wantParse(t, row, api.OK); p.Length != len(row) {
			t.Errorf("%+v", p)
		}
	}
}

// The header's length is looked at ahead of the body: what it does not have is
// missing, whatever stands behind.
func TestParseOfTheHeadersLength(t *testing.T) {
	body := segment(6, 9)
	for n := range len(body) + 1 {
		want := api.OK
		if n < 20 {
			want = api.ErrShort
		}
		row := append(four(ip.Header{Proto: 6}, body[:n]), body[n:]...)
		if p := wantParse(t, row, want); want == api.OK && p.Length != 20+n {
			t.Errorf("%+v", p)
		}
		row = append(six(ipsix.Chain{Proto: 6}, body[:n]), body[n:]...)
		if p := wantParse(t, row, want); want == api.OK && p.Length != 40+n {
			t.Errorf("%+v", p)
		}
	}
	wantParse(t, four(ip.Header{Proto: 9}, nil), api.OK)
	wantParse(t, six(ipsix.Chain{Proto: 9}, nil), api.OK)
}

func TestParseOfEachByte(t *testing.T) {
	l := append(both(6, 0, false, segment(6, 2)), both(17, 0, true, segment(17, 2))...)
	l = append(l, both(1, 3, false, segment(1, 2))...)
	for _, row := range l {
		for i := range row {
			for x := range 256 {
				b := slices.Clone(row)
				b[i] = byte(x)
				wantParseAsTold(t, b)
				if b[0]/16 == 4 && i < 20 {
					setCheck(b)
					wantParseAsTold(t, b)
				}
			}
		}
	}
}

// setCheck lays the checksum that is right into an IPv4 header without options.
func setCheck(b []byte) {
	b[10], b[11] = 0, 0
	n := 0
	for i := 0; i < 20; i += 2 {
		n += two(b, i)
	}
	n = n%65536 + n/65536
	n = 65535 - n%65536 - n/65536
	b[10], b[11] = byte(n/256), byte(n%256)
}

func TestParseOfAnyBytes(t *testing.T) {
	parsed := 0
	for seed := range 60000 {
		b := mixed(seed%130, seed)
		if len(b) > 45 {
			proto := []byte{6, 17, 1, 58, 44, 0, 60, b[9]}[seed%8]
			switch seed % 3 {
			case 0:
				b[0], b[2], b[3], b[9] = 0x45, 0, b[3]%100, proto
				b[6] = b[6] & 0x60
				setCheck(b)
			case 1:
				b[0], b[4], b[5], b[6] = 0x60, 0, b[5]%100, proto
				b[40], b[41], b[42], b[43] = b[40]%64, 0, b[42]%2, b[43]%2
			}
		}
		wantParseAsTold(t, b)
		if p, e := packet.Parse(b); e == api.OK {
			parsed++
			if !p.Key.Right() {
				t.Fatalf("a key that is not right: %+v", p)
			}
		}
	}
	if parsed < 5000 {
		t.Errorf("but %d were parsed", parsed)
	}
}

// putTold is a spec's packet, if it has one, as 'Words' tells it: in digits of
// sixteen.
func putTold(s packet.Spec) []byte {
	k := s.Key
	var text string
	switch k.Proto {
	case 6:
		text = fmt.Sprintf("%04x%04x000000000000000050%02x000000000000", k.SrcPort, k.DstPort, s.Flags)
	case 17:
		text = fmt.Sprintf("%04x%04x%04x0000", k.SrcPort, k.DstPort, 8+s.Data)
	case 1, 58:
		text = fmt.Sprintf("%04x0000", k.DstPort)
	}
	text += strings.Repeat("00", s.Data)
	body := digits(text)
	if k.Src.Six {
		head := digits(fmt.Sprintf("60000000%04x%02x40%x%x", len(body), k.Proto, k.Src.B, k.Dst.B))
		setSegmentCheck(k.Proto, body, head[8:])
		return append(head, body...)
	}
	head := digits(fmt.Sprintf("4500%04x0000000040%02x0000%x%x", 20+len(body), k.Proto, k.Src.B[:4], k.Dst.B[:4]))
	setCheck(head)
	setSegmentCheck(k.Proto, body, head[12:])
	return append(head, body...)
}

// digits are the bytes of digits of sixteen.
func digits(s string) []byte {
	b := make([]byte, len(s)/2)
	for i := range b {
		if _, err := fmt.Sscanf(s[2*i:2*i+2], "%02x", &b[i]); err != nil {
			panic(err)
		}
	}
	return b
}

// setSegmentCheck lays the checksum that is right into a segment of which all
// but that is there.
func setSegmentCheck(proto uint8, b, addresses []byte) {
	at, ok := map[uint8]int{1: 2, 6: 16, 17: 6, 58: 2}[proto]
	if !ok {
		return
	}
	n := 0
	for i, x := range b {
		n += int(x) * []int{256, 1}[i%2]
	}
	if proto != 1 {
		for i, x := range addresses {
			n += int(x) * []int{256, 1}[i%2]
		}
		n += int(proto) + len(b)
	}
	for n > 65535 {
		n = n%65536 + n/65536
	}
	if n = 65535 - n; n == 0 && proto == 17 {
		n = 65535
	}
	b[at], b[at+1] = byte(n/256), byte(n%256)
}

// putable tells whether there is a protocol's packet of addresses' keys.
func putable(k packet.Key) bool {
	return !k.Src.Six || k.Proto != 0 && k.Proto != 43 && k.Proto != 44 && k.Proto != 60
}

func wantPut(t *testing.T, s packet.Spec) []byte {
	t.Helper()
	b, e := packet.Put(s)
	if want := putTold(s); e != api.OK || !bytes.Equal(b, want) {
		t.Fatalf("Put(%+v): % x (%d bytes), error %d, not % x (%d bytes)", s, b[:min(len(b), 80)], len(b), int(e), want[:min(len(want), 80)], len(want))
	}
	return b
}

func wantNoPut(t *testing.T, s packet.Spec, want api.Errno) {
	t.Helper()
	if b, e := packet.Put(s); e != want || b != nil {
		t.Errorf("Put(%+v): % x, error %d, not %d", s, b[:min(len(b), 80)], int(e), int(want))
	}
}

func TestKnownPut(t *testing.T) {
	for _, x := range []struct {
		s    packet.Spec
		want string
	}{
		{packet.Spec{Key: key(6, "10.0.0.1", 5, "10.0.0.2", 80), Flags: 2},
			"450000280000000040060000" + "0a0000010a000002" + "000500500000000000000000" + "5002000000000000"},
		{packet.Spec{Key: key(1, "10.0.0.1", 0, "10.0.0.2", 2048), Data: 8},
			"450000200000000040010000" + "0a0000010a000002" + "08000000" + "0000000000000000"},
		{packet.Spec{Key: key(17, "::1", 9, "::2", 53), Data: 1},
			"6000000000091140" + "00000000000000000000000000000001" + "00000000000000000000000000000002" + "0009003500090000" + "00"},
		{packet.Spec{Key: key(2, "10.0.0.1", 0, "10.0.0.2", 0), Data: 2},
			"450000160000000040020000" + "0a0000010a000002" + "0000"},
		{packet.Spec{Key: key(59, "::1", 0, "::2", 0)},
			"6000000000003b40" + "00000000000000000000000000000001" + "00000000000000000000000000000002"},
	} {
		b := wantPut(t, x.s)
		// The checksums are set to 0 here: those that are right are told below.
		if b[0] == 0x45 {
			b[10], b[11] = 0, 0
		}
		if at, ok := map[uint8]int{1: 2, 6: 16, 17: 6}[x.s.Key.Proto]; ok {
			at += map[byte]int{0x45: 20, 0x60: 40}[b[0]]
			b[at], b[at+1] = 0, 0
		}
		if !bytes.Equal(b, digits(x.want)) {
			t.Errorf("%+v: % x", x.s, b)
		}
	}
	// These checksums were reckoned by hand.
	b := wantPut(t, packet.Spec{Key: key(6, "10.0.0.1", 5, "10.0.0.2", 80), Flags: 2})
	if two(b, 10) != 0x66ce || two(b, 36) != 0x9b8b {
		t.Errorf("% x", b)
	}
}

// P8.5, P8.3: what was put is whole, sound, and parsed as its spec.
func TestPutIsParsedAsItWas(t *testing.T) {
	for _, k := range rights() {
		for _, n := range []int{0, 1, 2, 7, 8, 200} {
			s := packet.Spec{Key: k, Data: n}
			if !putable(k) {
				wantNoPut(t, s, api.ErrArg)
				continue
			}
			if k.Proto == 6 {
				s.Flags = uint8(n + int(k.SrcPort))
			}
			b := wantPut(t, s)
			want := packet.Packet{Key: k, Length: len(b), Flags: s.Flags}
			if got, e := packet.Parse(b); e != api.OK || got != want {
				t.Fatalf("%+v is parsed as %+v, error %d", s, got, int(e))
			}
			if got, e := packet.Parse(append(slices.Clip(b), mixed(n+1, n)...)); e != api.OK || got != want {
				t.Fatalf("%+v is parsed, with bytes behind it, as %+v, error %d", s, got, int(e))
			}
			head := heads[k.Proto]
			body := b[len(b)-n-head:]
			if head > 0 && !trans.Sound(k.Proto, body, k.Src.Bytes(), k.Dst.Bytes()) {
				t.Fatalf("%+v is not sound", s)
			}
			if !bytes.Equal(body[head:], make([]byte, n)) {
				t.Fatalf("%+v has other data than noughts", s)
			}
		}
	}
}

func TestPutOfEachFlag(t *testing.T) {
	for f := range 256 {
		for proto := range 256 {
			for _, a := range [][2]string{{"10.0.0.1", "10.0.0.2"}, {"::1", "::2"}} {
				s := packet.Spec{Key: key(uint8(proto), a[0], 0, a[1], 0), Flags: uint8(f), Data: 1}
				if !putable(s.Key) || f > 0 && proto != 6 {
					wantNoPut(t, s, api.ErrArg)
					continue
				}
				if b := wantPut(t, s); f > 0 && b[len(b)-1-20+13] != byte(f) {
					t.Errorf("%+v: % x", s, b)
				}
			}
		}
	}
}

func TestPutOfHowMuchData(t *testing.T) {
	for proto := range 256 {
		for _, a := range [][2]string{{"10.0.0.1", "10.0.0.2"}, {"::1", "::2"}} {
			k := key(uint8(proto), a[0], 0, a[1], 0)
			if !putable(k) {
				continue
			}
			most := 2048 - 20 - heads[k.Proto]
			if k.Src.Six {
				most -= 20
			}
			for n := most - 2; n <= most; n++ {
				if b := wantPut(t, packet.Spec{Key: k, Data: n}); len(b) != 2048-most+n {
					t.Errorf("%d bytes", len(b))
				}
			}
			for _, n := range []int{most + 1, most + 2, 2047, 2048, 2049, 65535, 65536, 1 << 31, 1 << 32, math.MaxInt - 40, math.MaxInt} {
				wantNoPut(t, packet.Spec{Key: k, Data: n}, api.ErrLimit)
			}
			for _, n := range []int{-1, -2, -65536, math.MinInt, math.MinInt + 1} {
				wantNoPut(t, packet.Spec{Key: k, Data: n}, api.ErrArg)
			}
		}
	}
}

func TestPutTellsTheFirstError(t *testing.T) {
	wantNoPut(t, packet.Spec{Key: key(17, "::1", 1, "10.0.0.1", 2), Data: 5000}, api.ErrArg)
	wantNoPut(t, packet.Spec{Key: key(44, "::1", 0, "::2", 0), Data: 5000}, api.ErrArg)
	wantNoPut(t, packet.Spec{Key: key(17, "::1", 1, "::2", 2), Flags: 1, Data: 5000}, api.ErrArg)
	wantNoPut(t, packet.Spec{Key: key(6, "::1", 1, "::2", 2), Flags: 1, Data: 5000}, api.ErrLimit)
	for _, proto := range []uint8{0, 43, 44, 60} {
		wantPut(t, packet.Spec{Key: key(proto, "10.0.0.1", 0, "10.0.0.2", 0), Data: 3})
	}
}

// Each of these has a checksum 0: of UDP 65535 stands for it.
func TestPutOfAChecksumOfNought(t *testing.T) {
	k := key(17, "10.0.0.1", 0, "10.0.0.2", 0)
	b := wantPut(t, packet.Spec{Key: k})
	k.SrcPort = uint16(two(b, 26))
	if b = wantPut(t, packet.Spec{Key: k}); two(b, 26) != 65535 {
		t.Errorf("% x", b)
	}
	if b = wantPut(t, packet.Spec{Key: key(1, "10.0.0.1", 0, "10.0.0.2", 65535)}); two(b, 22) != 0 {
		t.Errorf("% x", b)
	}
}

func TestOnlyRead(t *testing.T) {
	for _, offset := range []int{0, 3} {
		for _, more := range []bool{false, true} {
			for proto := range heads {
				for _, row := range both(proto, offset, more, segment(proto, 5)) {
					all := slices.Concat([]byte{7, 7}, row, mixed(40, 1))
					before := slices.Clone(all)
					if _, e := packet.Parse(all[2 : 2+len(row)]); e != api.OK {
						t.Errorf("error %d", int(e))
					}
					packet.Parse(all[2:30])
					if !bytes.Equal(all, before) {
						t.Errorf("what was handed in is changed: % x", row)
					}
				}
			}
		}
	}
}

func TestNewMemory(t *testing.T) {
	k := key(17, "::1", 9, "::2", 53)
	s := packet.Spec{Key: k, Data: 9}
	for _, row := range []func() []byte{k.Bytes, func() []byte { b, _ := packet.Put(s); return b }} {
		first, second := row(), row()
		before := slices.Clone(second)
		for i := range first[:cap(first)] {
			first[:cap(first)][i] ^= 0x5a
		}
		if !bytes.Equal(second, before) || !bytes.Equal(row(), before) {
			t.Error("answers share memory")
		}
	}
	if k != key(17, "::1", 9, "::2", 53) {
		t.Errorf("%+v", k)
	}
}
