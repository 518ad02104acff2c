package trans_test

import (
	"bytes"
	"fmt"
	"slices"
	"testing"

	"octroi/api"
	"octroi/trans"
)

// protos are those that have segments, heads how many bytes stand ahead of
// their Options and Data, sumsAt where their checksums stand.
var (
	protos = []uint8{1, 6, 17, 58}
	heads  = map[uint8]int{1: 4, 6: 20, 17: 8, 58: 4}
	sumsAt = map[uint8]int{1: 2, 6: 16, 17: 6, 58: 2}
)

// pair is two addresses.
type pair struct{ src, dst []byte }

// mixed is a row of n bytes without a plain order.
func mixed(n, seed int) []byte {
	b := make([]byte, n)
	x := uint32(seed)*2654435761 + 12345
	for i := range b {
		x = x*1664525 + 1013904223
		b[i] = byte(x >> 24)
	}
	return b
}

func four() pair    { return pair{mixed(4, 1), mixed(4, 2)} }
func sixteen() pair { return pair{mixed(16, 3), mixed(16, 4)} }

// pairs are ordinary ones, and such as are all noughts, or all 255.
func pairs() []pair {
	return []pair{
		four(), sixteen(),
		{make([]byte, 4), make([]byte, 4)},
		{make([]byte, 16), make([]byte, 16)},
		{bytes.Repeat([]byte{255}, 4), bytes.Repeat([]byte{255}, 4)},
		{bytes.Repeat([]byte{255}, 16), bytes.Repeat([]byte{255}, 16)},
	}
}

// plain is an ordinary segment of a protocol, with n bytes of data.
func plain(proto uint8, n int) trans.Segment {
	s := trans.Segment{Proto: proto}
	if n > 0 {
		s.Data = mixed(n, n)
	}
	switch proto {
	case 6:
		s.Src, s.Dst, s.Seq, s.Ack = 0x1234, 0x0050, 0x89abcdef, 0x01020304
		s.Flags, s.Window, s.Urgent = 0x12, 0x7fff, 0x0203
	case 17:
		s.Src, s.Dst = 0x1234, 0x0035
	default:
		s.Type, s.Code = 8, 1
	}
	return s
}

// withOptions is an ordinary segment of TCP with that many bytes of options,
// and of data.
func withOptions(options, data int) trans.Segment {
	s := plain(6, data)
	s.Options = mixed(options, 9)
	return s
}

// rights are segments that are right: ordinary ones, and such as have each
// part at its bounds.
func rights() []trans.Segment {
	l := []trans.Segment{
		{Proto: 6, Src: 65535, Dst: 65535, Seq: 1<<32 - 1, Ack: 1<<32 - 1, Flags: 255, Window: 65535, Urgent: 65535, Options: bytes.Repeat([]byte{255}, 40)},
		{Proto: 17, Src: 65535, Dst: 65535, Data: bytes.Repeat([]byte{255}, 9)},
		{Proto: 1, Type: 255, Code: 255},
		{Proto: 58, Type: 255, Code: 255, Data: bytes.Repeat([]byte{255}, 9)},
	}
	for _, proto := range protos {
		l = append(l, trans.Segment{Proto: proto}, trans.Segment{Proto: proto, Options: []byte{}, Data: []byte{}})
		for _, n := range []int{0, 1, 2, 3, 4, 7, 100, 1401, 65535 - heads[proto]} {
			l = append(l, plain(proto, n))
		}
	}
	for n := 0; n <= 40; n += 4 {
		l = append(l, withOptions(n, 0), withOptions(n, 5), withOptions(n, 65515-n))
	}
	return l
}

// change lays another thing into one part; foreign tells which protocols do
// not have it.
type change struct {
	name    string
	foreign []uint8
	lay     func(s *trans.Segment)
}

func changes() []change {
	icmps, others := []uint8{1, 58}, []uint8{1, 17, 58}
	ports := []uint8{6, 17}
	return []change{
		{"Src 1", icmps, func(s *trans.Segment) { s.Src ^= 1 }},
		{"Src 32768", icmps, func(s *trans.Segment) { s.Src ^= 32768 }},
		{"Dst 1", icmps, func(s *trans.Segment) { s.Dst ^= 1 }},
		{"Dst 32768", icmps, func(s *trans.Segment) { s.Dst ^= 32768 }},
		{"Seq 1", others, func(s *trans.Segment) { s.Seq ^= 1 }},
		{"Seq 2^31", others, func(s *trans.Segment) { s.Seq ^= 1 << 31 }},
		{"Ack 1", others, func(s *trans.Segment) { s.Ack ^= 1 }},
		{"Ack 2^31", others, func(s *trans.Segment) { s.Ack ^= 1 << 31 }},
		{"Flags 1", others, func(s *trans.Segment) { s.Flags ^= 1 }},
		{"Flags 128", others, func(s *trans.Segment) { s.Flags ^= 128 }},
		{"Window 1", others, func(s *trans.Segment) { s.Window ^= 1 }},
		{"Window 32768", others, func(s *trans.Segment) { s.Window ^= 32768 }},
		{"Urgent 1", others, func(s *trans.Segment) { s.Urgent ^= 1 }},
		{"Urgent 32768", others, func(s *trans.Segment) { s.Urgent ^= 32768 }},
		{"Options 0 0 0 0", others, func(s *trans.Segment) { s.Options = append(slices.Clip(s.Options), 0, 0, 0, 0) }},
		{"Type 1", ports, func(s *trans.Segment) { s.Type ^= 1 }},
		{"Type 128", ports, func(s *trans.Segment) { s.Type ^= 128 }},
		{"Code 1", ports, func(s *trans.Segment) { s.Code ^= 1 }},
		{"Code 128", ports, func(s *trans.Segment) { s.Code ^= 128 }},
		{"Data 0", nil, func(s *trans.Segment) { s.Data = append(slices.Clip(s.Data), 0) }},
	}
}

// rightTold tells whether a segment is right, and has none but its protocol's
// parts, as 'Words' and P7.1 tell it.
func rightTold(s trans.Segment) bool {
	head, ok := heads[s.Proto]
	if !ok {
		return false
	}
	ports := s.Src != 0 || s.Dst != 0
	tcp := s.Seq != 0 || s.Ack != 0 || s.Flags != 0 || s.Window != 0 || s.Urgent != 0 || len(s.Options) > 0
	icmp := s.Type != 0 || s.Code != 0
	switch s.Proto {
	case 6:
		if icmp {
			return false
		}
	case 17:
		if icmp || tcp {
			return false
		}
	default:
		if ports || tcp {
			return false
		}
	}
	return len(s.Options)%4 == 0 && len(s.Options) <= 40 && head+len(s.Options)+len(s.Data) <= 65535
}

// foldedTold is the folded sum of the words of bytes, as chapter 3 tells it.
func foldedTold(b []byte) int {
	n := 0
	for i, x := range b {
		if i%2 == 0 {
			n += int(x) * 256
		} else {
			n += int(x)
		}
	}
	for n > 65535 {
		n = n%65536 + n/65536
	}
	return n
}

// pseudoTold is a pseudo header, as 'Words' tells it.
func pseudoTold(proto uint8, size int, p pair) []byte {
	b := slices.Concat(p.src, p.dst)
	if len(p.src) == 4 {
		return append(b, 0, proto, byte(size/256), byte(size%256))
	}
	return append(b, 0, 0, byte(size/256), byte(size%256), 0, 0, 0, proto)
}

// coveredTold is what the checksum of a segment's bytes goes over.
func coveredTold(proto uint8, b []byte, p pair) []byte {
	if proto == 1 {
		return b
	}
	return slices.Concat(pseudoTold(proto, len(b), p), b)
}

// setCheck lays the checksum that is right into a segment's bytes.
func setCheck(proto uint8, b []byte, p pair) {
	at := sumsAt[proto]
	b[at], b[at+1] = 0, 0
	c := 65535 - foldedTold(coveredTold(proto, b, p))
	if proto == 17 && c == 0 {
		c = 65535
	}
	b[at], b[at+1] = byte(c/256), byte(c%256)
}

// putTold is how a segment that is right stands, as 'Words' tells it: in
// sixteen's digits.
func putTold(s trans.Segment, p pair) []byte {
	var text string
	switch s.Proto {
	case 6:
		text = fmt.Sprintf("%04x%04x%08x%08x%x0%02x%04x0000%04x", s.Src, s.Dst, s.Seq, s.Ack, (20+len(s.Options))/4, s.Flags, s.Window, s.Urgent)
	case 17:
		text = fmt.Sprintf("%04x%04x%04x0000", s.Src, s.Dst, 8+len(s.Data))
	default:
		text = fmt.Sprintf("%02x%02x0000", s.Type, s.Code)
	}
	var b []byte
	if _, err := fmt.Sscanf(text, "%x", &b); err != nil {
		panic(err)
	}
	b = slices.Concat(b, s.Options, s.Data)
	setCheck(s.Proto, b, p)
	return b
}

// parseTold is what Parse answers, as P7.3 tells it: its errors one by one, in
// their order.
func parseTold(proto uint8, b []byte) (trans.Segment, api.Errno) {
	head, ok := heads[proto]
	switch {
	case !ok:
		return trans.Segment{}, api.ErrProto
	case len(b) < head:
		return trans.Segment{}, api.ErrShort
	case len(b) > 65535:
		return trans.Segment{}, api.ErrHeader
	}
	two := func(at int) uint16 { return uint16(b[at])*256 + uint16(b[at+1]) }
	four := func(at int) uint32 { return uint32(two(at))*65536 + uint32(two(at+2)) }
	switch proto {
	case 6:
		n := int(b[12]/16) * 4
		if n < 20 {
			return trans.Segment{}, api.ErrHeader
		}
		if len(b) < n {
			return trans.Segment{}, api.ErrShort
		}
		return trans.Segment{
			Proto: 6, Src: two(0), Dst: two(2), Seq: four(4), Ack: four(8), Flags: b[13], Window: two(14), Urgent: two(18),
			Options: bytes.Clone(b[20:n]), Data: bytes.Clone(b[n:]),
		}, api.OK
	case 17:
		n := int(two(4))
		if n < 8 {
			return trans.Segment{}, api.ErrHeader
		}
		if len(b) < n {
			return trans.Segment{}, api.ErrShort
		}
		return trans.Segment{Proto: 17, Src: two(0), Dst: two(2), Data: bytes.Clone(b[8:n])}, api.OK
	}
	return trans.Segment{Proto: proto, Type: b[0], Code: b[1], Data: bytes.Clone(b[4:])}, api.OK
}

// areTold tells whether Put takes the addresses.
func areTold(p pair) bool {
	return len(p.src) == 4 && len(p.dst) == 4 || len(p.src) == 16 && len(p.dst) == 16
}

// soundTold is what Sound answers, as 'Words' and P7.4 tell it.
func soundTold(proto uint8, b []byte, p pair) bool {
	if _, e := parseTold(proto, b); e != api.OK || !areTold(p) {
		return false
	}
	if proto == 17 {
		b = b[:int(b[4])*256+int(b[5])]
		if len(p.src) == 4 && b[6] == 0 && b[7] == 0 {
			return true
		}
	}
	n := foldedTold(coveredTold(proto, b, p))
	return n == 65535 || n == 0
}

// same holds segments against each other without Same.
func same(a, b trans.Segment) bool {
	x := bytes.Equal(a.Options, b.Options) && bytes.Equal(a.Data, b.Data)
	a.Options, a.Data, b.Options, b.Data = nil, nil, nil, nil
	return x && fmt.Sprint(a) == fmt.Sprint(b)
}

// brief is a segment's text, with its data cut.
func brief(s trans.Segment) string {
	n := len(s.Data)
	s.Data = s.Data[:min(n, 16)]
	return fmt.Sprintf("%+v (%d bytes of data)", s, n)
}

func wantPut(t *testing.T, s trans.Segment, p pair) []byte {
	t.Helper()
	want := putTold(s, p)
	b, e := trans.Put(s, p.src, p.dst)
	if e != api.OK || !bytes.Equal(b, want) {
		t.Fatalf("Put(%s, %v): % x, error %d, not % x", brief(s), p, b[:min(len(b), 64)], int(e), want[:min(len(want), 64)])
	}
	return b
}

func wantNoPut(t *testing.T, s trans.Segment, p pair, want api.Errno) {
	t.Helper()
	if b, e := trans.Put(s, p.src, p.dst); e != want || b != nil {
		t.Errorf("Put(%s, %v): % x, error %d, not %d", brief(s), p, b[:min(len(b), 64)], int(e), int(want))
	}
}

// wantParse holds what Parse answers against P7.3; its error, which the test
// knows as well, is held against both.
func wantParse(t *testing.T, proto uint8, b []byte, want api.Errno) {
	t.Helper()
	told, e := parseTold(proto, b)
	if e != want {
		t.Fatalf("the test itself tells %d, not %d: %d, % x (%d bytes)", int(e), int(want), proto, b[:min(len(b), 64)], len(b))
	}
	s, f := trans.Parse(proto, b)
	if f != want || !same(s, told) {
		t.Errorf("Parse(%d, % x (%d bytes)): %s, error %d, not %s, error %d", proto, b[:min(len(b), 64)], len(b), brief(s), int(f), brief(told), int(want))
	}
	if f != api.OK && (s.Options != nil || s.Data != nil) {
		t.Errorf("Parse(%d, ..): error %d, and rows", proto, int(f))
	}
}

// wantParseAsTold is the same, for bytes of which the test does not know more.
func wantParseAsTold(t *testing.T, proto uint8, b []byte) {
	t.Helper()
	_, e := parseTold(proto, b)
	wantParse(t, proto, b, e)
}

// wantSound holds what Sound answers against P7.4; what the test knows as well
// is held against both.
func wantSound(t *testing.T, proto uint8, b []byte, p pair, want bool) {
	t.Helper()
	if soundTold(proto, b, p) != want {
		t.Fatalf("the test itself does not tell %v: %d, % x (%d bytes), %v", want, proto, b[:min(len(b), 64)], len(b), p)
	}
	if trans.Sound(proto, b, p.src, p.dst) != want {
		t.Errorf("Sound(%d, % x (%d bytes), %v) is not %v", proto, b[:min(len(b), 64)], len(b), p, want)
	}
}

func wantSoundAsTold(t *testing.T, proto uint8, b []byte, p pair) {
	t.Helper()
	wantSound(t, proto, b, p, soundTold(proto, b, p))
}

func TestExamples(t *testing.T) {
	b, e := trans.Put(trans.Segment{Proto: trans.ICMP, Type: 8, Data: []byte{1, 2, 3, 4}}, make([]byte, 4), make([]byte, 4))
	if e != api.OK || !bytes.Equal(b, []byte{0x08, 0x00, 0xf3, 0xf9, 1, 2, 3, 4}) {
		t.Errorf("% x, error %d", b, int(e))
	}
	s, e := trans.Parse(17, []byte{0, 53, 1, 0, 0, 8, 0, 0})
	if e != api.OK || !same(s, trans.Segment{Proto: 17, Src: 53, Dst: 256}) {
		t.Errorf("%s, error %d", brief(s), int(e))
	}
	if _, e := trans.Parse(17, make([]byte, 7)); e != api.ErrShort {
		t.Errorf("error %d", int(e))
	}
	for _, b := range [][]byte{nil, make([]byte, 40), make([]byte, 70000)} {
		if s, e := trans.Parse(2, b); e != api.ErrProto || !same(s, trans.Segment{}) {
			t.Errorf("%s, error %d", brief(s), int(e))
		}
	}
	if f := trans.Flags(18); f != "SA" {
		t.Errorf("%q", f)
	}
}

func TestConstants(t *testing.T) {
	if got, want := [...]uint8{trans.TCP, trans.UDP, trans.ICMP, trans.ICMP6}, [...]uint8{6, 17, 1, 58}; got != want {
		t.Errorf("%v, not %v", got, want)
	}
	if got, want := [...]uint8{trans.FIN, trans.SYN, trans.RST, trans.PSH, trans.ACK, trans.URG}, [...]uint8{1, 2, 4, 8, 16, 32}; got != want {
		t.Errorf("%v, not %v", got, want)
	}
}

// The checksums of these were reckoned by hand.
func TestKnownSegments(t *testing.T) {
	short := pair{[]byte{10, 0, 0, 1}, []byte{10, 0, 0, 2}}
	long := pair{make([]byte, 16), make([]byte, 16)}
	long.src[15], long.dst[15] = 1, 2
	for _, x := range []struct {
		s    trans.Segment
		p    pair
		want []byte
	}{
		{trans.Segment{Proto: 17, Src: 5, Dst: 80, Data: []byte("a")}, short, []byte{0, 5, 0, 80, 0, 9, 0x8a, 0x84, 'a'}},
		{trans.Segment{Proto: 6, Src: 5, Dst: 80, Flags: 2}, long, []byte{0, 5, 0, 80, 0, 0, 0, 0, 0, 0, 0, 0, 0x50, 2, 0, 0, 0xaf, 0x8b, 0, 0}},
		{trans.Segment{Proto: 58, Type: 128, Data: []byte{0, 1, 0, 1}}, long, []byte{128, 0, 0x7f, 0xb8, 0, 1, 0, 1}},
		{trans.Segment{Proto: 1, Type: 8, Data: []byte{0, 1, 0, 1}}, long, []byte{8, 0, 0xf7, 0xfd, 0, 1, 0, 1}},
	} {
		if b, e := trans.Put(x.s, x.p.src, x.p.dst); e != api.OK || !bytes.Equal(b, x.want) {
			t.Errorf("%s: % x, error %d, not % x", brief(x.s), b, int(e), x.want)
		}
		if s, e := trans.Parse(x.s.Proto, x.want); e != api.OK || !same(s, x.s) {
			t.Errorf("% x: %s, error %d", x.want, brief(s), int(e))
		}
		wantSound(t, x.s.Proto, x.want, x.p, true)
	}
}

func TestRightAndPut(t *testing.T) {
	for _, s := range rights() {
		if !rightTold(s) {
			t.Fatalf("the test itself tells that it is not right: %s", brief(s))
		}
		if !trans.Right(s) {
			t.Errorf("not right: %s", brief(s))
		}
		for _, p := range pairs() {
			wantPut(t, s, p)
		}
	}
}

func TestRightOfEachProtocol(t *testing.T) {
	for proto := range 256 {
		for _, s := range []trans.Segment{{}, plain(6, 3), plain(17, 3), plain(1, 3), {Data: mixed(70000, 1)}, {Options: mixed(3, 1)}} {
			s.Proto = uint8(proto)
			if trans.Right(s) != rightTold(s) {
				t.Errorf("Right is not %v: %s", rightTold(s), brief(s))
			}
			if slices.Contains(protos, s.Proto) {
				continue
			}
			wantNoPut(t, s, four(), api.ErrProto)
			wantNoPut(t, s, pair{}, api.ErrProto)
		}
	}
}

func TestRightOfOtherProtocolsParts(t *testing.T) {
	for _, proto := range protos {
		for _, c := range changes() {
			for _, s := range []trans.Segment{{Proto: proto}, plain(proto, 5)} {
				c.lay(&s)
				want := !slices.Contains(c.foreign, proto)
				if rightTold(s) != want {
					t.Fatalf("the test itself does not tell %v: %s: %s", want, c.name, brief(s))
				}
				if trans.Right(s) != want {
					t.Errorf("%s: Right is not %v: %s", c.name, want, brief(s))
				}
				if want {
					wantPut(t, s, sixteen())
				} else {
					wantNoPut(t, s, sixteen(), api.ErrHeader)
				}
			}
		}
	}
}

func TestRightOfHowManyOptions(t *testing.T) {
	for n := range 130 {
		for _, proto := range protos {
			s := plain(proto, 6)
			s.Options = mixed(n, n)
			want := n == 0 || proto == 6 && n <= 40 && n%4 == 0
			if trans.Right(s) != want {
				t.Errorf("%d of %d: Right is not %v", proto, n, want)
			}
			if want {
				wantPut(t, s, four())
			} else {
				wantNoPut(t, s, four(), api.ErrHeader)
			}
		}
	}
}

func TestRightOfHowManyBytes(t *testing.T) {
	for _, proto := range protos {
		for options := 0; options == 0 || proto == 6 && options <= 40; options += 4 {
			most := 65535 - heads[proto] - options
			for n := most - 2; n <= most+3; n++ {
				s := plain(proto, n)
				s.Options = mixed(options, 1)
				if trans.Right(s) != (n <= most) {
					t.Errorf("%d, %d, %d: Right is not %v", proto, options, n, n <= most)
				}
				if n <= most {
					wantPut(t, s, sixteen())
				} else {
					wantNoPut(t, s, sixteen(), api.ErrHeader)
				}
			}
		}
	}
	for _, n := range []int{65536, 65536 + 8, 131072, 1 << 20} {
		wantNoPut(t, plain(17, n), four(), api.ErrHeader)
	}
}

func TestPutOfAddresses(t *testing.T) {
	for _, proto := range protos {
		for n := range 35 {
			for m := range 35 {
				p := pair{mixed(n, 1), mixed(m, 2)}
				if n == m && (n == 4 || n == 16) {
					wantPut(t, plain(proto, 3), p)
				} else {
					wantNoPut(t, plain(proto, 3), p, api.ErrArg)
				}
			}
		}
		wantNoPut(t, plain(proto, 3), pair{}, api.ErrArg)
		wantNoPut(t, plain(proto, 3), pair{dst: mixed(4, 1)}, api.ErrArg)
		wantNoPut(t, plain(proto, 3), pair{src: mixed(16, 1)}, api.ErrArg)
		wantNoPut(t, plain(proto, 3), pair{mixed(260, 1), mixed(260, 1)}, api.ErrArg)
	}
}

func TestPutTellsTheFirstError(t *testing.T) {
	wrong := withOptions(3, 0)
	wantNoPut(t, wrong, pair{}, api.ErrHeader)
	wantNoPut(t, wrong, four(), api.ErrHeader)
	wrong.Proto = 7
	wantNoPut(t, wrong, pair{}, api.ErrProto)
	wantNoPut(t, trans.Segment{Proto: 255}, four(), api.ErrProto)
	wantNoPut(t, plain(17, 65528), pair{mixed(4, 1), mixed(16, 1)}, api.ErrHeader)
	wantNoPut(t, trans.Segment{}, pair{}, api.ErrProto)
}

// Each of these has a checksum 0: of UDP 65535 stands for it.
func TestPutOfAChecksumOfNought(t *testing.T) {
	for _, proto := range protos {
		for _, p := range pairs() {
			s := plain(proto, 6)
			b := wantPut(t, s, p)
			at := sumsAt[proto]
			word := int(s.Data[4])*256 + int(s.Data[5]) + int(b[at])*256 + int(b[at+1])
			if word > 65535 {
				word -= 65535
			}
			s.Data[4], s.Data[5] = byte(word/256), byte(word%256)
			b = wantPut(t, s, p)
			want := byte(0)
			if proto == 17 {
				want = 255
			}
			if b[at] != want || b[at+1] != want {
				t.Errorf("%s: the checksum is % x", brief(s), b[at:at+2])
			}
			wantSound(t, proto, b, p, true)
		}
	}
	if b := wantPut(t, trans.Segment{Proto: 1, Type: 255, Code: 255}, four()); b[2] != 0 || b[3] != 0 {
		t.Errorf("% x", b)
	}
}

func TestPutWithMemoryBehind(t *testing.T) {
	s := withOptions(8, 9)
	all := mixed(64, 5)
	o := s
	o.Options, o.Data = append(all[:0:64], s.Options...), append(all[20:20:64], s.Data...)
	before := bytes.Clone(all)
	if b, e := trans.Put(o, all[40:44:64], all[50:54:64]); e != api.OK || !bytes.Equal(b, putTold(s, pair{before[40:44], before[50:54]})) {
		t.Errorf("% x, error %d", b, int(e))
	}
	if !bytes.Equal(all, before) {
		t.Error("memory behind the rows was changed")
	}
}

func TestParseOfEachProtocol(t *testing.T) {
	for proto := range 256 {
		for _, n := range []int{0, 1, 3, 4, 7, 8, 19, 20, 60, 65536} {
			b := mixed(n, n)
			wantParseAsTold(t, uint8(proto), b)
			if n > 12 {
				b[12] = 0x50
				b[4], b[5] = 0, 8
			}
			wantParseAsTold(t, uint8(proto), b)
			if !slices.Contains(protos, uint8(proto)) {
				wantParse(t, uint8(proto), b, api.ErrProto)
				wantSound(t, uint8(proto), b, four(), false)
			}
		}
		if !slices.Contains(protos, uint8(proto)) {
			wantParse(t, uint8(proto), nil, api.ErrProto)
		}
	}
}

func TestParseOfTooFew(t *testing.T) {
	for _, proto := range protos {
		row := putTold(plain(proto, 0), four())
		if len(row) != heads[proto] {
			t.Fatal(len(row))
		}
		wantParse(t, proto, nil, api.ErrShort)
		for n := range row {
			wantParse(t, proto, row[:n], api.ErrShort)
			wantParse(t, proto, make([]byte, n), api.ErrShort)
			wantSound(t, proto, row[:n], four(), false)
		}
		wantParse(t, proto, row, api.OK)
	}
}

func TestParseOfTooMany(t *testing.T) {
	for _, proto := range protos {
		row := putTold(plain(proto, 65535-heads[proto]), four())
		if len(row) != 65535 {
			t.Fatal(len(row))
		}
		wantParse(t, proto, row, api.OK)
		wantSound(t, proto, row, four(), true)
		for _, n := range []int{1, 2, 65536, 131072} {
			more := append(slices.Clip(row), make([]byte, n)...)
			wantParse(t, proto, more, api.ErrHeader)
			wantSound(t, proto, more, four(), false)
		}
		small := append(putTold(plain(proto, 3), four()), make([]byte, 70000)...)
		wantParse(t, proto, small, api.ErrHeader)
		wantSound(t, proto, small, four(), false)
	}
}

func TestParseOfEachLengthOfTCP(t *testing.T) {
	for x := range 256 {
		for n := 20; n <= 64; n++ {
			b := mixed(n, n)
			b[12] = byte(x)
			want := api.OK
			if x/16 < 5 {
				want = api.ErrHeader
			} else if n < x/16*4 {
				want = api.ErrShort
			}
			wantParse(t, 6, b, want)
		}
		b := mixed(65536, 1)
		b[12] = byte(x)
		wantParse(t, 6, b, api.ErrHeader)
		wantParseAsTold(t, 6, b[:65535])
		wantParse(t, 6, b[:19], api.ErrShort)
	}
}

func TestParseOfEachNumberOfUDP(t *testing.T) {
	for _, n := range []int{8, 9, 12, 255, 256, 300, 65534, 65535} {
		b := mixed(n, n)
		for x := range 65536 {
			if n > 300 && x > 40 && x < 65500 && x%256 > 1 {
				continue
			}
			b[4], b[5] = byte(x/256), byte(x%256)
			want := api.OK
			if x < 8 {
				want = api.ErrHeader
			} else if n < x {
				want = api.ErrShort
			}
			if s, e := trans.Parse(17, b); e != want || e == api.OK && !bytes.Equal(s.Data, b[8:x]) || e != api.OK && s.Data != nil {
				t.Fatalf("%d bytes, %d told: %s, error %d, not %d", n, x, brief(s), int(e), int(want))
			}
			if x < 300 {
				wantParse(t, 17, b, want)
			}
		}
	}
	b := make([]byte, 65536)
	for _, x := range []int{0, 7, 8, 9, 65535} {
		b[4], b[5] = byte(x/256), byte(x%256)
		wantParse(t, 17, b, api.ErrHeader)
		wantParse(t, 17, b[:7], api.ErrShort)
	}
}

func TestParseOfUDPWithOthersBehind(t *testing.T) {
	for _, n := range []int{0, 1, 2, 5, 40} {
		s := plain(17, n)
		for _, p := range pairs() {
			row := putTold(s, p)
			for _, tail := range [][]byte{{0}, {1}, {255}, {1, 2}, mixed(41, 1), mixed(60000, 2), row} {
				b := slices.Concat(row, tail)
				if got, e := trans.Parse(17, b); e != api.OK || !same(got, s) {
					t.Errorf("%s: %s, error %d", brief(s), brief(got), int(e))
				}
				wantSound(t, 17, b, p, true)
				b[6] ^= 1
				wantSoundAsTold(t, 17, b, p)
			}
		}
	}
}

func TestParseLooksAtNoChecksum(t *testing.T) {
	for _, proto := range protos {
		s := plain(proto, 3)
		b := putTold(s, four())
		for c := range 65536 {
			b[sumsAt[proto]], b[sumsAt[proto]+1] = byte(c/256), byte(c%256)
			if got, e := trans.Parse(proto, b); e != api.OK || !trans.Same(got, s) {
				t.Fatalf("%d, %d: %s, error %d", proto, c, brief(got), int(e))
			}
		}
	}
}

func TestParseOfEachByte(t *testing.T) {
	for _, proto := range protos {
		for _, n := range []int{heads[proto], heads[proto] + 9, 61} {
			for i := range n {
				for x := range 256 {
					b := mixed(n, i)
					if i != 12 {
						b[min(12, n-1)] = 0x60
					}
					if i != 4 && i != 5 && proto == 17 {
						b[4], b[5] = 0, byte(n)
					}
					b[i] = byte(x)
					wantParseAsTold(t, proto, b)
				}
			}
		}
	}
}

func TestParseOfAnyBytes(t *testing.T) {
	for seed := range 20000 {
		b := mixed(seed%90, seed)
		if len(b) > 5 && seed%3 == 0 {
			b[4], b[5] = 0, b[5]%100
		}
		for _, proto := range protos {
			wantParseAsTold(t, proto, b)
			wantSoundAsTold(t, proto, b, pairs()[seed%6])
		}
	}
}

func TestSoundOfEachChecksum(t *testing.T) {
	for _, proto := range protos {
		for _, p := range pairs() {
			for _, n := range []int{0, 3, 8} {
				b := putTold(plain(proto, n), p)
				at := sumsAt[proto]
				right := [2]byte(b[at : at+2])
				sounds := 0
				for c := range 65536 {
					b[at], b[at+1] = byte(c/256), byte(c%256)
					got := trans.Sound(proto, b, p.src, p.dst)
					if got != soundTold(proto, b, p) {
						t.Fatalf("Sound(%d, % x, %v) is %v", proto, b, p, got)
					}
					if got {
						sounds++
					}
					if !got && right == [2]byte(b[at:at+2]) {
						t.Fatalf("not sound: %d, % x, %v", proto, b, p)
					}
				}
				// 0 and 65535 are as good as each other; of UDP 0 is sound by itself.
				want := 1
				if right == [2]byte{} || right == [2]byte{255, 255} || proto == 17 && len(p.src) == 4 {
					want = 2
				}
				if sounds != want {
					t.Errorf("%d, %d bytes, %v: %d checksums are sound, not %d", proto, n, p, sounds, want)
				}
			}
		}
	}
}

func TestSoundOfUDPWithoutAChecksum(t *testing.T) {
	for _, proto := range protos {
		for _, n := range []int{0, 1, 9, 65527} {
			b := putTold(plain(proto, min(n, 65535-heads[proto])), four())
			b[sumsAt[proto]], b[sumsAt[proto]+1] = 0, 0
			wantSound(t, proto, b, four(), proto == 17)
			wantSound(t, proto, b, sixteen(), false)
		}
	}
	b := []byte{0, 1, 0, 2, 0, 9, 0, 0, 5}
	wantSound(t, 17, b, four(), true)
	wantSound(t, 17, append(b, 6, 7), four(), true)
	wantSound(t, 17, b[:8], four(), false)
	b[5] = 7
	wantSound(t, 17, b, four(), false)
	b[5], b[7] = 9, 1
	wantSound(t, 17, b, four(), false)
	b[6], b[7] = 1, 0
	wantSound(t, 17, b, four(), false)
}

// A checksum of UDP that is 0 is, between addresses of 16 bytes, nothing but a
// checksum: what is whole with it is sound.
func TestSoundOfUDPThatIsWholeWithNought(t *testing.T) {
	s := trans.Segment{Proto: 17, Src: 1, Dst: 2}
	p := pair{make([]byte, 16), make([]byte, 16)}
	b := putTold(s, p)
	p.src[14], p.src[15] = b[6], b[7]
	b[6], b[7] = 0, 0
	wantSound(t, 17, b, p, true)
	p.src[15] ^= 1
	wantSound(t, 17, b, p, false)
}

func TestSoundOfNoughts(t *testing.T) {
	for n := range 100 {
		wantSound(t, 1, make([]byte, n), four(), n >= 4)
		for _, proto := range []uint8{6, 17, 58} {
			wantSound(t, proto, make([]byte, n), pair{make([]byte, 4), make([]byte, 4)}, false)
		}
	}
}

func TestSoundOfAddresses(t *testing.T) {
	for _, proto := range protos {
		rows := map[int][]byte{4: putTold(plain(proto, 3), four()), 16: putTold(plain(proto, 3), sixteen())}
		for n := range 35 {
			for m := range 35 {
				p := pair{mixed(n, 1), mixed(m, 2)}
				if n == 16 {
					p.src = sixteen().src
				}
				if m == 16 {
					p.dst = sixteen().dst
				}
				for size, row := range rows {
					wantSound(t, proto, row, p, n == m && (n == size || proto == 1 && (n == 4 || n == 16)))
				}
			}
		}
		for _, row := range rows {
			wantSound(t, proto, row, pair{}, false)
			wantSound(t, proto, row, pair{dst: mixed(4, 2)}, false)
		}
	}
	blank := []byte{0, 1, 0, 2, 0, 8, 0, 0}
	for _, p := range []pair{{}, {mixed(4, 1), nil}, {mixed(4, 1), mixed(16, 1)}, {mixed(16, 1), mixed(4, 1)}, {mixed(3, 1), mixed(3, 1)}} {
		wantSound(t, 17, blank, p, false)
	}
}

func TestSoundOfOtherAddressesAndProtocols(t *testing.T) {
	for _, proto := range protos {
		for _, p := range pairs() {
			b := putTold(plain(proto, 7), p)
			for i := range p.src {
				q := pair{bytes.Clone(p.src), bytes.Clone(p.dst)}
				q.src[i] ^= 4
				wantSound(t, proto, b, q, proto == 1)
				q.src[i] ^= 4
				q.dst[i] ^= 128
				wantSound(t, proto, b, q, proto == 1)
			}
		}
		b := putTold(plain(proto, 7), four())
		for _, other := range protos {
			if other != proto {
				wantSound(t, other, b, four(), false)
			}
		}
	}
}

// What the pseudo header tells of how many bytes there are is in the sum: a
// nought more is told.
func TestSoundOfMoreAndOfFewerNoughts(t *testing.T) {
	for _, proto := range []uint8{6, 58} {
		for _, p := range pairs() {
			s := plain(proto, 4)
			s.Data[2], s.Data[3] = 0, 0
			b := putTold(s, p)
			wantSound(t, proto, append(slices.Clip(b), 0), p, false)
			wantSound(t, proto, append(slices.Clip(b), 0, 0), p, false)
			wantSound(t, proto, b[:len(b)-1], p, false)
			wantSound(t, proto, b[:len(b)-2], p, false)
		}
	}
	b := putTold(plain(1, 4), four())
	wantSound(t, 1, append(b, 0, 0), four(), true)
}

// The binary digits beneath TCP's length are not looked at, but are summed.
func TestDigitsBeneathTCPsLength(t *testing.T) {
	for x := range 16 {
		for _, s := range []trans.Segment{plain(6, 3), withOptions(40, 0)} {
			b := putTold(s, sixteen())
			b[12] |= byte(x)
			if got, e := trans.Parse(6, b); e != api.OK || !same(got, s) {
				t.Errorf("%d: %s, error %d", x, brief(got), int(e))
			}
			wantSound(t, 6, b, sixteen(), x == 0)
			setCheck(6, b, sixteen())
			wantSound(t, 6, b, sixteen(), true)
		}
	}
}

func TestSamePartByPart(t *testing.T) {
	all := trans.Segment{Proto: 3, Src: 1, Dst: 2, Seq: 3, Ack: 4, Flags: 5, Window: 6, Urgent: 7, Options: mixed(4, 1), Type: 8, Code: 9, Data: mixed(5, 2)}
	for _, s := range append(rights(), all, trans.Segment{}) {
		o := s
		o.Options, o.Data = append([]byte{}, s.Options...), append([]byte{}, s.Data...)
		if !trans.Same(s, s) || !trans.Same(s, o) || !trans.Same(o, s) {
			t.Errorf("not the same as itself: %s", brief(s))
		}
		for _, c := range changes() {
			o := s
			c.lay(&o)
			if trans.Same(s, o) || trans.Same(o, s) {
				t.Errorf("%s: the same: %s", c.name, brief(s))
			}
		}
		for x := 1; x < 256; x++ {
			o := s
			o.Proto ^= uint8(x)
			if trans.Same(s, o) {
				t.Errorf("the same as of protocol %d: %s", o.Proto, brief(s))
			}
		}
	}
}

func TestSameOfRows(t *testing.T) {
	lay := []func(s *trans.Segment, b []byte){
		func(s *trans.Segment, b []byte) { s.Options = b },
		func(s *trans.Segment, b []byte) { s.Data = b },
	}
	rows := [][]byte{nil, {}, {0}, {0, 0}, {1}, {0, 1}, {1, 0}, {1, 2, 3, 4}, {1, 2, 3, 5}, {5, 2, 3, 4}}
	for _, put := range lay {
		for _, x := range rows {
			for _, y := range rows {
				a, b := plain(6, 0), plain(6, 0)
				put(&a, x)
				put(&b, y)
				if want := string(x) == string(y); trans.Same(a, b) != want {
					t.Errorf("Same of %v and %v is not %v", x, y, want)
				}
			}
		}
	}
	a, b := plain(6, 0), plain(6, 0)
	a.Options, b.Data = []byte{1}, []byte{1}
	if trans.Same(a, b) {
		t.Error("Options are taken for Data")
	}
}

func TestFlags(t *testing.T) {
	one := []struct {
		flag   uint8
		letter string
	}{{trans.FIN, "F"}, {trans.SYN, "S"}, {trans.RST, "R"}, {trans.PSH, "P"}, {trans.ACK, "A"}, {trans.URG, "U"}}
	for f := range 256 {
		var want string
		for _, x := range one {
			if uint8(f)&x.flag != 0 {
				want += x.letter
			}
		}
		if got := trans.Flags(uint8(f)); got != want {
			t.Errorf("Flags(%d): %q, not %q", f, got, want)
		}
	}
	for f, want := range map[uint8]string{0: "", 63: "FSRPAU", 255: "FSRPAU", 64: "", 128: "", 192: "", 17: "FA", 20: "RA", 41: "FPU"} {
		if got := trans.Flags(f); got != want {
			t.Errorf("Flags(%d): %q, not %q", f, got, want)
		}
	}
}

// spoil lays other bytes over a row, and over the memory behind it.
func spoil(b []byte) {
	b = b[:cap(b)]
	for i := range b {
		b[i] ^= 0x5a
	}
}

// inside is a row in a greater one, that has memory behind it.
func inside(b []byte) (part, all []byte) {
	all = slices.Concat([]byte{7, 7, 7}, b, mixed(9, 5))
	return all[3 : 3+len(b)], all
}

func TestOnlyRead(t *testing.T) {
	for _, s := range []trans.Segment{withOptions(12, 7), plain(17, 8), plain(1, 5), plain(58, 0)} {
		for _, p := range pairs() {
			var rows [5][]byte
			o, q := s, pair{}
			o.Options, rows[0] = inside(s.Options)
			o.Data, rows[1] = inside(s.Data)
			q.src, rows[2] = inside(p.src)
			q.dst, rows[3] = inside(p.dst)
			b, e := trans.Put(o, q.src, q.dst)
			if e != api.OK {
				t.Fatal(e)
			}
			b, rows[4] = inside(b)
			before := fmt.Sprint(rows)
			trans.Put(o, q.src, q.dst)
			trans.Right(o)
			trans.Same(o, s)
			trans.Parse(s.Proto, b)
			trans.Sound(s.Proto, b, q.src, q.dst)
			trans.Put(o, q.src, q.dst[1:])
			trans.Parse(s.Proto, b[:3])
			if fmt.Sprint(rows) != before {
				t.Errorf("what was handed in is changed: %s", brief(s))
			}
		}
	}
}

func TestNewMemoryOfParse(t *testing.T) {
	for _, s := range []trans.Segment{withOptions(12, 7), withOptions(0, 0), withOptions(40, 0), plain(6, 9), plain(17, 8), plain(17, 0), plain(1, 5), plain(58, 0)} {
		b := append(putTold(s, four()), mixed(30, 1)...)[:len(putTold(s, four()))]
		first, _ := trans.Parse(s.Proto, b)
		second, _ := trans.Parse(s.Proto, b)
		before := bytes.Clone(b)
		spoil(first.Options)
		if !same(second, s) || !bytes.Equal(first.Data, s.Data) || !bytes.Equal(b, before) {
			t.Errorf("Options share memory: %s", brief(s))
		}
		spoil(first.Data)
		if !same(second, s) || !bytes.Equal(b, before) {
			t.Errorf("Data share memory: %s", brief(s))
		}
		spoil(b)
		if !same(second, s) {
			t.Errorf("what was handed in is kept: %s", brief(s))
		}
	}
}

func TestNewMemoryOfPut(t *testing.T) {
	for _, s := range []trans.Segment{withOptions(12, 7), plain(17, 8), plain(1, 5), plain(58, 0)} {
		o, p, q := s, sixteen(), sixteen()
		o.Options, o.Data = bytes.Clone(s.Options), bytes.Clone(s.Data)
		first, _ := trans.Put(o, p.src, p.dst)
		second, _ := trans.Put(o, p.src, p.dst)
		spoil(first)
		if !same(o, s) || !bytes.Equal(p.src, q.src) || !bytes.Equal(p.dst, q.dst) || !bytes.Equal(second, putTold(s, q)) {
			t.Errorf("an answer shares memory: %s", brief(s))
		}
		spoil(o.Options)
		spoil(o.Data)
		spoil(p.src)
		spoil(p.dst)
		if !bytes.Equal(second, putTold(s, q)) {
			t.Errorf("what was handed in is kept: %s", brief(s))
		}
	}
}

// P7.6: what was put is parsed as it was, is put as it stood, and is sound
// between its addresses, and between these, exchanged.
func TestPutIsParsedAsItWas(t *testing.T) {
	for _, s := range rights() {
		for _, p := range pairs() {
			b, e := trans.Put(s, p.src, p.dst)
			if e != api.OK {
				t.Fatal(e)
			}
			got, e := trans.Parse(s.Proto, b)
			if e != api.OK || !trans.Same(got, s) || !same(got, s) {
				t.Fatalf("%s is parsed as %s, error %d", brief(s), brief(got), int(e))
			}
			if !trans.Sound(s.Proto, b, p.src, p.dst) || !trans.Sound(s.Proto, b, p.dst, p.src) {
				t.Errorf("%s is not sound between %v", brief(s), p)
			}
			if again, e := trans.Put(got, p.src, p.dst); e != api.OK || !bytes.Equal(again, b) {
				t.Errorf("%s is put otherwise, error %d", brief(s), int(e))
			}
		}
	}
}

func TestParsedIsPutAsItStood(t *testing.T) {
	parsed := 0
	for seed := range 4000 {
		proto := protos[seed%4]
		b := mixed(heads[proto]+seed%50, seed)
		if proto == 6 {
			b[12] &= 0xf0
		}
		if proto == 17 {
			b[4], b[5] = 0, byte(len(b))
		}
		p := pairs()[seed%6]
		setCheck(proto, b, p)
		s, e := trans.Parse(proto, b)
		if e != api.OK {
			continue
		}
		parsed++
		if got, e := trans.Put(s, p.src, p.dst); !trans.Right(s) || e != api.OK || !bytes.Equal(got, b) {
			t.Errorf("% x is put as % x, error %d", b, got, int(e))
		}
	}
	if parsed < 3000 {
		t.Errorf("but %d were parsed", parsed)
	}
}

// P7.6: no byte may change alone and leave it sound, but what makes a checksum
// of UDP 0 (of which Sound says so between addresses of four bytes), and the
// number of UDP's bytes.
func TestEachChangedByteIsTold(t *testing.T) {
	l := []trans.Segment{withOptions(8, 3), withOptions(0, 0), {Proto: 6}, {Proto: 17}, {Proto: 1}, {Proto: 58}, {Proto: 1, Type: 255, Code: 255}}
	for _, proto := range protos {
		l = append(l, plain(proto, 0), plain(proto, 1), plain(proto, 6), plain(proto, 13))
	}
	for _, s := range l {
		for _, p := range pairs() {
			b := wantPut(t, s, p)
			for i := range b {
				if s.Proto == 17 && (i == 4 || i == 5) {
					continue
				}
				for x := 1; x < 256; x++ {
					b[i] ^= byte(x)
					blank := s.Proto == 17 && len(p.src) == 4 && b[6] == 0 && b[7] == 0
					wantSound(t, s.Proto, b, p, blank)
					b[i] ^= byte(x)
				}
			}
		}
	}
}

func TestChangedByteThatMakesAChecksumNought(t *testing.T) {
	p := four()
	for seed := range 200000 {
		s := trans.Segment{Proto: 17, Src: uint16(seed), Dst: uint16(seed >> 8)}
		b := putTold(s, p)
		if b[6] == 0 && b[7] != 0 {
			wantSound(t, 17, b, p, true)
			b[7] = 0
			wantSound(t, 17, b, p, true)
			return
		}
	}
	t.Fatal("no checksum begins with a nought")
}
