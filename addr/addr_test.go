package addr_test

import (
	"bytes"
	"fmt"
	"math"
	"regexp"
	"slices"
	"strconv"
	"strings"
	"testing"

	"octroi/addr"
	"octroi/api"
)

// mixed is a row of n bytes without a plain order.
func mixed(n, seed int) []byte {
	b := make([]byte, n)
	x := uint32(seed)*2654435761 + 12345
	for i := range b {
		x = x*1664525 + 1013904223
		b[i] = byte(x >> 24)
	}
	return b
}

// made is the address of bytes, made by hand.
func made(b ...byte) addr.Addr {
	a := addr.Addr{Six: len(b) == 16}
	copy(a.B[:], b)
	return a
}

// six is the address of eight groups, made by hand.
func six(groups ...uint16) addr.Addr {
	var b []byte
	for _, g := range groups {
		b = append(b, byte(g/256), byte(g%256))
	}
	return made(b...)
}

func zeros(n int) []byte { return make([]byte, n) }
func ones(n int) []byte  { return bytes.Repeat([]byte{255}, n) }

// rights are addresses that are right: the least and the greatest ones, such
// as have one binary digit, and any.
func rights() []addr.Addr {
	var l []addr.Addr
	for _, n := range []int{4, 16} {
		l = append(l, made(zeros(n)...), made(ones(n)...))
		for digit := range 8 * n {
			b, c := zeros(n), ones(n)
			b[digit/8] ^= 128 >> (digit % 8)
			c[digit/8] ^= 128 >> (digit % 8)
			l = append(l, made(b...), made(c...))
		}
		for seed := range 20 {
			l = append(l, made(mixed(n, seed)...))
		}
	}
	return append(l, made(10, 0, 0, 255), six(0x2001, 0xdb8, 0, 0, 1, 0, 0, 1))
}

// wrongs are addresses of four bytes with others behind them.
func wrongs() []addr.Addr {
	var l []addr.Addr
	for at := 4; at < 16; at++ {
		for _, x := range []byte{1, 128, 255} {
			none, some := addr.Addr{}, made(10, 0, 0, 255)
			none.B[at], some.B[at] = x, x
			l = append(l, none, some)
		}
	}
	a := made(mixed(16, 3)...)
	a.Six = false
	return append(l, a)
}

func size(a addr.Addr) int {
	if a.Six {
		return 16
	}
	return 4
}

// digits are the binary digits of an address, the greatest one first.
func digits(a addr.Addr) string {
	var s string
	for _, x := range a.B[:size(a)] {
		s += fmt.Sprintf("%08b", x)
	}
	return s
}

// ofDigits is the address of binary digits.
func ofDigits(s string) addr.Addr {
	var b []byte
	for ; s != ""; s = s[8:] {
		v, _ := strconv.ParseUint(s[:8], 2, 8)
		b = append(b, byte(v))
	}
	return made(b...)
}

// cutTold is the prefix that Cut answers, for lengths from 0 to all.
func cutTold(a addr.Addr, n int) addr.Prefix {
	s := digits(a)
	return addr.Prefix{A: ofDigits(s[:n] + strings.Repeat("0", len(s)-n)), Len: n}
}

// sixTextTold is the text of eight groups, as the section 'Words' tells it: of
// all rows of 0, from the longest ones down, the first one is left out.
func sixTextTold(a addr.Addr) string {
	var l []string
	for i := 0; i < 16; i += 2 {
		l = append(l, fmt.Sprintf("%x", int(a.B[i])*256+int(a.B[i+1])))
	}
	for n := 8; n >= 2; n-- {
		for from := 0; from+n <= 8; from++ {
			if strings.Join(l[from:from+n], "") == strings.Repeat("0", n) {
				return strings.Join(l[:from], ":") + "::" + strings.Join(l[from+n:], ":")
			}
		}
	}
	return strings.Join(l, ":")
}

func textTold(a addr.Addr) string {
	if a.Six {
		return sixTextTold(a)
	}
	return fmt.Sprintf("%d.%d.%d.%d", a.B[0], a.B[1], a.B[2], a.B[3])
}

var (
	fourForm  = regexp.MustCompile(`^(0|[1-9][0-9]{0,2})\.(0|[1-9][0-9]{0,2})\.(0|[1-9][0-9]{0,2})\.(0|[1-9][0-9]{0,2})$`)
	groupForm = regexp.MustCompile(`^[0-9a-fA-F]{1,4}$`)
)

// groupsTold are the groups of a text with one colon between; no text has none.
func groupsTold(s string) ([]uint16, bool) {
	var l []uint16
	if s == "" {
		return nil, true
	}
	for _, part := range strings.Split(s, ":") {
		if !groupForm.MatchString(part) {
			return nil, false
		}
		v, _ := strconv.ParseUint(part, 16, 16)
		l = append(l, uint16(v))
	}
	return l, true
}

// parseTold is the address that a text tells, as the section 'Words' tells it:
// each place is tried where two colons stand.
func parseTold(s string) (addr.Addr, bool) {
	if m := fourForm.FindStringSubmatch(s); m != nil {
		var b []byte
		for _, part := range m[1:] {
			v, err := strconv.ParseUint(part, 10, 8)
			if err != nil {
				return addr.Addr{}, false
			}
			b = append(b, byte(v))
		}
		return made(b...), true
	}
	if l, ok := groupsTold(s); ok && len(l) == 8 {
		return six(l...), true
	}
	for at := 0; at+2 <= len(s); at++ {
		l, good := groupsTold(s[:at])
		r, fine := groupsTold(s[at+2:])
		if s[at:at+2] == "::" && good && fine && len(l)+len(r) <= 7 {
			for len(l)+len(r) < 8 {
				l = append(l, 0)
			}
			return six(append(l, r...)...), true
		}
	}
	return addr.Addr{}, false
}

func wantRead(t *testing.T, s string, want addr.Addr) {
	t.Helper()
	if a, e := addr.Parse(s); a != want || e != api.OK {
		t.Errorf("Parse(%q): %v, error %d, not %v", s, a, int(e), want)
	}
}

func wantUnread(t *testing.T, s string) {
	t.Helper()
	if a, e := addr.Parse(s); a != (addr.Addr{}) || e != api.ErrText {
		t.Errorf("Parse(%q): %v, error %d, not nothing and %d", s, a, int(e), int(api.ErrText))
	}
}

// wantAsTold holds what Parse answers against the section 'Words'.
func wantAsTold(t *testing.T, s string) {
	t.Helper()
	if want, ok := parseTold(s); ok {
		wantRead(t, s, want)
	} else {
		wantUnread(t, s)
	}
}

func wantPrefix(t *testing.T, s string, want addr.Prefix) {
	t.Helper()
	if p, e := addr.ParsePrefix(s); p != want || e != api.OK {
		t.Errorf("ParsePrefix(%q): %v, error %d, not %v", s, p, int(e), want)
	}
}

func wantNoPrefix(t *testing.T, s string) {
	t.Helper()
	if p, e := addr.ParsePrefix(s); p != (addr.Prefix{}) || e != api.ErrText {
		t.Errorf("ParsePrefix(%q): %v, error %d, not nothing and %d", s, p, int(e), int(api.ErrText))
	}
}

// P4.1

func TestFromAndBytes(t *testing.T) {
	for _, n := range []int{4, 16} {
		for _, b := range [][]byte{zeros(n), ones(n), mixed(n, 1), mixed(n, 2)} {
			a, e := addr.From(b)
			if e != api.OK || a != made(b...) || a.Six != (n == 16) {
				t.Errorf("From(%v): %v, error %d", b, a, int(e))
			}
			if !a.Right() || !bytes.Equal(a.Bytes(), b) {
				t.Errorf("From(%v): right %v, bytes %v", b, a.Right(), a.Bytes())
			}
		}
	}
}

// Memory behind the length is no part of the bytes, even if sixteen are there.
func TestFromOfOtherLengths(t *testing.T) {
	all := mixed(40, 7)
	for n := range all {
		a, e := addr.From(all[:n])
		switch {
		case n == 4 || n == 16:
			if e != api.OK || a != made(bytes.Clone(all[:n])...) {
				t.Errorf("From of %d bytes: %v, error %d", n, a, int(e))
			}
		case a != (addr.Addr{}) || e != api.ErrArg:
			t.Errorf("From of %d bytes: %v, error %d", n, a, int(e))
		}
	}
	if a, e := addr.From(nil); a != (addr.Addr{}) || e != api.ErrArg {
		t.Errorf("From of nil: %v, error %d", a, int(e))
	}
}

func TestRightAddresses(t *testing.T) {
	for _, a := range rights() {
		if !a.Right() {
			t.Errorf("%v is right", a)
		}
	}
	for _, a := range wrongs() {
		if a.Right() {
			t.Errorf("%v is not right", a)
		}
		if !bytes.Equal(a.Bytes(), a.B[:4]) {
			t.Errorf("Bytes of %v: %v", a, a.Bytes())
		}
		a.Six = true
		if !a.Right() || !bytes.Equal(a.Bytes(), a.B[:]) {
			t.Errorf("%v is right: %v, bytes %v", a, a.Right(), a.Bytes())
		}
	}
	if !(addr.Addr{}).Right() || !(addr.Addr{Six: true}).Right() {
		t.Error("zeros are right")
	}
}

func TestCmpOfRisingAddresses(t *testing.T) {
	rising := []addr.Addr{
		made(0, 0, 0, 0), made(0, 0, 0, 1), made(0, 0, 0, 255), made(0, 0, 1, 0), made(0, 1, 0, 0),
		made(1, 0, 0, 0), made(9, 255, 255, 255), made(10, 0, 0, 0), made(127, 255, 255, 255), made(128, 0, 0, 0), made(255, 255, 255, 255),
		six(0, 0, 0, 0, 0, 0, 0, 0), six(0, 0, 0, 0, 0, 0, 0, 1), six(0, 0, 0, 0, 0, 0, 0, 256), six(0, 0, 0, 0, 0, 0, 1, 0),
		six(0, 0, 1, 0, 0, 0, 0, 0), six(0, 1, 0, 0, 0, 0, 0, 0), six(0, 0xffff, 0, 0, 0, 0, 0, 0), six(1, 0, 0, 0, 0, 0, 0, 0),
		six(0x7fff, 0, 0, 0, 0, 0, 0, 9), six(0x8000, 0, 0, 0, 0, 0, 0, 3), made(ones(16)...),
	}
	for i, a := range rising {
		for j, b := range rising {
			want := 0
			if i < j {
				want = -1
			} else if i > j {
				want = 1
			}
			if c := addr.Cmp(a, b); c != want {
				t.Errorf("Cmp(%v, %v): %d, not %d", a, b, c, want)
			}
		}
	}
}

func TestCmpAsTold(t *testing.T) {
	for _, a := range rights() {
		for _, b := range rights() {
			want := size(a) - size(b)
			if want == 0 {
				want = strings.Compare(digits(a), digits(b))
			}
			want = min(max(want, -1), 1)
			if c := addr.Cmp(a, b); c != want {
				t.Errorf("Cmp(%v, %v): %d, not %d", a, b, c, want)
			}
		}
	}
}

// Of such as are not right anything is answered, and nothing panics.
func TestCmpOfWrongAddresses(t *testing.T) {
	for _, a := range wrongs() {
		for _, b := range append(wrongs(), rights()...) {
			addr.Cmp(a, b)
			addr.Cmp(b, a)
		}
	}
}

// P4.2

func TestExamples(t *testing.T) {
	wantRead(t, "10.0.0.255", made(10, 0, 0, 255))
	wantRead(t, "2001:DB8:0:0:1:0:0:1", six(0x2001, 0xdb8, 0, 0, 1, 0, 0, 1))
	a, _ := addr.Parse("2001:DB8:0:0:1:0:0:1")
	if a.Text() != "2001:db8::1:0:0:1" {
		t.Errorf("Text: %q", a.Text())
	}
	wantRead(t, "::", made(zeros(16)...))
	wantRead(t, "1::", made(append([]byte{0, 1}, zeros(14)...)...))
	for _, s := range []string{"01.2.3.4", "1:2", "1::2::3", "10.0.0.1/8"} {
		wantUnread(t, s)
	}
	wantNoPrefix(t, "10.0.0.1/8")
}

func TestTexts(t *testing.T) {
	for _, x := range []struct {
		a    addr.Addr
		want string
	}{
		{addr.Addr{}, "0.0.0.0"},
		{made(255, 255, 255, 255), "255.255.255.255"},
		{made(1, 20, 100, 9), "1.20.100.9"},
		{addr.Addr{Six: true}, "::"},
		{six(0, 0, 0, 0, 0, 0, 0, 1), "::1"},
		{six(1, 0, 0, 0, 0, 0, 0, 0), "1::"},
		{six(0, 1, 2, 3, 4, 5, 6, 7), "0:1:2:3:4:5:6:7"},
		{six(1, 0, 2, 3, 4, 5, 6, 7), "1:0:2:3:4:5:6:7"},
		{six(1, 2, 3, 4, 5, 6, 7, 0), "1:2:3:4:5:6:7:0"},
		{six(0, 1, 0, 1, 0, 1, 0, 1), "0:1:0:1:0:1:0:1"},
		{six(0, 0, 1, 2, 3, 4, 5, 6), "::1:2:3:4:5:6"},
		{six(1, 2, 3, 0, 0, 4, 5, 6), "1:2:3::4:5:6"},
		{six(1, 2, 3, 4, 5, 6, 0, 0), "1:2:3:4:5:6::"},
		{six(0, 0, 1, 0, 0, 1, 0, 0), "::1:0:0:1:0:0"},
		{six(1, 0, 0, 1, 0, 0, 1, 1), "1::1:0:0:1:1"},
		{six(0, 0, 1, 0, 0, 0, 1, 1), "0:0:1::1:1"},
		{six(0, 0, 0, 1, 1, 0, 0, 0), "::1:1:0:0:0"},
		{six(0, 0, 1, 1, 1, 0, 0, 0), "0:0:1:1:1::"},
		{six(0, 0, 0, 1, 0, 0, 0, 0), "0:0:0:1::"},
		{six(0, 1, 0, 0, 0, 0, 0, 0), "0:1::"},
		{six(0, 0, 0, 0, 0, 0, 1, 0), "::1:0"},
		{six(0, 0, 0, 0, 0, 0xffff, 0x102, 0x304), "::ffff:102:304"},
		{six(0xabcd, 0xef, 0xf, 0x10, 0x100, 0x1000, 0xa0b0, 0xffff), "abcd:ef:f:10:100:1000:a0b0:ffff"},
	} {
		if x.a.Text() != x.want {
			t.Errorf("Text of %v: %q, not %q", x.a, x.a.Text(), x.want)
		}
		wantRead(t, x.want, x.a)
	}
}

// Each way in which eight groups are 0, or are not.
func TestTextOfAllRowsOfZeros(t *testing.T) {
	for ways := range 256 {
		for _, other := range []uint16{1, 0x10, 0xabc, 0xf000, 0xffff} {
			var l []uint16
			for i := range 8 {
				l = append(l, other*uint16(ways>>i&1))
			}
			a := six(l...)
			if a.Text() != sixTextTold(a) {
				t.Errorf("Text of %v: %q, not %q", a, a.Text(), sixTextTold(a))
			}
			wantRead(t, a.Text(), a)
		}
	}
}

func TestTextOfEachByteAndGroup(t *testing.T) {
	for v := range 256 {
		a := made(byte(v), 0, byte(255-v), byte(v))
		if a.Text() != textTold(a) {
			t.Errorf("Text of %v: %q", a, a.Text())
		}
	}
	for v := range 65536 {
		a := six(1, uint16(v), 2, 3, 4, 5, 6, uint16(65535-v))
		if a.Text() != textTold(a) {
			t.Errorf("Text of %v: %q", a, a.Text())
		}
	}
	for _, a := range rights() {
		if a.Text() != textTold(a) {
			t.Errorf("Text of %v: %q, not %q", a, a.Text(), textTold(a))
		}
	}
}

func TestNoTextOfWrongAddresses(t *testing.T) {
	for _, a := range wrongs() {
		if a.Text() != "" {
			t.Errorf("Text of %v: %q", a, a.Text())
		}
	}
}

func TestParseOfFour(t *testing.T) {
	for v := range 256 {
		wantRead(t, fmt.Sprintf("%d.1.2.3", v), made(byte(v), 1, 2, 3))
		wantRead(t, fmt.Sprintf("1.2.3.%d", v), made(1, 2, 3, byte(v)))
	}
	for _, part := range []string{"", "00", "01", "010", "000", "256", "260", "300", "999", "1000", "0255", "+1", "-1", "-0", " 1", "1 ", "a", "0x1", "1_0", "1e1", "٣", "18446744073709551617", "9999999999999999999999999", "1:2", "\x00", "1\n"} {
		for _, form := range []string{"%s.1.2.3", "1.%s.2.3", "1.2.%s.3", "1.2.3.%s"} {
			wantUnread(t, fmt.Sprintf(form, part))
		}
	}
	for _, s := range []string{"", "1", "1.2", "1.2.3", "1.2.3.4.5", "1.2.3.4.", ".1.2.3.4", "1..2.3.4", "1.2..4", ".", "..", "...", "....", "1,2,3,4", "1.2.3.4 ", " 1.2.3.4", "1.2.3.4\n", "1.2.3.4\x00", "1.2.3.4/32", "1.2.3.4.5.6.7.8", "a.b.c.d", "0x01020304", "16909060"} {
		wantUnread(t, s)
	}
}

func TestParseOfSix(t *testing.T) {
	for _, x := range []struct {
		s    string
		want addr.Addr
	}{
		{"0:0:0:0:0:0:0:0", addr.Addr{Six: true}},
		{"0000:0000:0000:0000:0000:0000:0000:0000", addr.Addr{Six: true}},
		{"1:2:3:4:5:6:7:8", six(1, 2, 3, 4, 5, 6, 7, 8)},
		{"0001:02:003:4:0005:06:007:8", six(1, 2, 3, 4, 5, 6, 7, 8)},
		{"abcd:ABCD:aBcD:Ef:fE:0aF:FA0:90", six(0xabcd, 0xabcd, 0xabcd, 0xef, 0xfe, 0xaf, 0xfa0, 0x90)},
		{"::0", addr.Addr{Six: true}},
		{"0::", addr.Addr{Six: true}},
		{"0::0", addr.Addr{Six: true}},
		{"1:2:3:4:5:6:7::", six(1, 2, 3, 4, 5, 6, 7, 0)},
		{"::2:3:4:5:6:7:8", six(0, 2, 3, 4, 5, 6, 7, 8)},
		{"1:2:3::5:6:7:8", six(1, 2, 3, 0, 5, 6, 7, 8)},
		{"0:0:1::", six(0, 0, 1, 0, 0, 0, 0, 0)},
		{"::1:0:0", six(0, 0, 0, 0, 0, 1, 0, 0)},
		{"1::8", six(1, 0, 0, 0, 0, 0, 0, 8)},
		{"1:2::7:8", six(1, 2, 0, 0, 0, 0, 7, 8)},
	} {
		wantRead(t, x.s, x.want)
	}
}

func TestParseOfNoSix(t *testing.T) {
	for _, s := range []string{
		":", ":::", "::::", ":1", "1:", ":1::", "::1:", "1:::2", ":::1", "1:::", "1::2::3", "::1::", "::::1", "::2::",
		"1:2:3:4:5:6:7", "1:2:3:4:5:6:7:8:9", "1:2:3:4:5:6:7:8:", ":1:2:3:4:5:6:7:8", ":2:3:4:5:6:7:8", "1:2:3:4:5:6:7:",
		"1:2:3:4:5:6:7:8::", "::1:2:3:4:5:6:7:8", "1:2:3:4::5:6:7:8", "1:2:3:4:5:6:7::8", "1:2:3:4:5:6:7:8:9::", "1::2:3:4:5:6:7:8:9",
		"00001::", "::12345", "::fffff", "1:2:3:4:5:6:7:00008", "g::", "::g", "::G", "::-1", "::+1", "::0x1", "::1_1", ":: 1", " ::1", "::1 ", "::1\n", "\x00::",
		"::1.2.3.4", "::ffff:1.2.3.4", "1.2.3.4::", "1:2:3:4:5:6:1.2.3.4", "[::1]", "::1%eth0", "::1/128", "::1/", "1;2", "::é", "::\u0661", "::\uff11", "::\xff",
	} {
		wantUnread(t, s)
	}
}

// All texts of a few signs, against the section 'Words'.
func TestParseAsTold(t *testing.T) {
	for _, x := range []struct {
		signs string
		most  int
	}{{":a", 17}, {"0.", 10}, {":.02f", 6}, {":.aA9gG/ -", 4}} {
		texts := []string{""}
		for range x.most {
			var longer []string
			for _, s := range texts {
				wantAsTold(t, s)
				for i := range x.signs {
					longer = append(longer, s+x.signs[i:i+1])
				}
			}
			texts = longer
		}
		for _, s := range texts {
			wantAsTold(t, s)
		}
	}
}

// Every one byte in each place of a text that tells an address, in place of
// the byte there, and ahead of it; and the text without it.
func TestParseOfChangedTexts(t *testing.T) {
	for _, s := range []string{"10.0.0.255", "1.2.3.4", "2001:db8::1:0:0:1", "::", "1::", "1:2:3:4:5:6:7:8", "1:2:3:4:5:6:7::", "ABCD:EF01:2345:6789:abcd:ef01:2345:6789"} {
		for at := range len(s) + 1 {
			for x := range 256 {
				wantAsTold(t, s[:at]+string([]byte{byte(x)})+s[at:])
				if at < len(s) {
					wantAsTold(t, s[:at]+string([]byte{byte(x)})+s[at+1:])
				}
			}
			wantAsTold(t, s[:at])
			wantAsTold(t, s[at:])
			if at < len(s) {
				wantAsTold(t, s[:at]+s[at+1:])
			}
		}
	}
}

func TestParseOfLongTexts(t *testing.T) {
	for _, part := range []string{":", "::", "1:", ".", "1.", "0", "1", "a", "/", "\xff"} {
		s := strings.Repeat(part, 1<<16)
		wantUnread(t, s)
		wantUnread(t, "::"+s)
		wantNoPrefix(t, s)
		wantNoPrefix(t, "0.0.0.0/"+s)
		wantNoPrefix(t, s+"/0")
	}
}

// P4.3

func TestCutAsTold(t *testing.T) {
	for _, a := range rights() {
		all := 8 * size(a)
		for n := range all + 1 {
			if p := addr.Cut(a, n); p != cutTold(a, n) || !p.Right() {
				t.Errorf("Cut(%v, %d): %v, not %v", a, n, p, cutTold(a, n))
			}
		}
		for _, n := range []int{-1, -2, -8, -32, -128, math.MinInt, math.MinInt + 1} {
			if p := addr.Cut(a, n); p != cutTold(a, 0) {
				t.Errorf("Cut(%v, %d): %v", a, n, p)
			}
		}
		for _, n := range []int{all + 1, all + 7, all + 8, 129, 256, math.MaxInt32, math.MaxInt} {
			if p := addr.Cut(a, n); p != cutTold(a, all) {
				t.Errorf("Cut(%v, %d): %v", a, n, p)
			}
		}
	}
}

func TestCutOfWrongAddresses(t *testing.T) {
	for _, a := range wrongs() {
		for _, n := range []int{math.MinInt, -1, 0, 1, 24, 32, 33, 128, math.MaxInt} {
			if p := addr.Cut(a, n); p != (addr.Prefix{}) {
				t.Errorf("Cut(%v, %d): %v", a, n, p)
			}
		}
	}
}

// A prefix is right, just if no digit behind its length is 1.
func TestRightPrefixes(t *testing.T) {
	for _, a := range rights() {
		s := digits(a)
		for n := range len(s) + 1 {
			p := addr.Prefix{A: a, Len: n}
			want := !strings.Contains(s[n:], "1")
			if p.Right() != want {
				t.Errorf("%v is right: %v, not %v", p, p.Right(), want)
			}
		}
	}
}

// wrongPrefixes are some whose length is none, whose address is not right, or
// has digits behind the length.
func wrongPrefixes() []addr.Prefix {
	var l []addr.Prefix
	for _, a := range []addr.Addr{{}, made(10, 0, 0, 0), made(255, 255, 255, 255)} {
		for _, n := range []int{33, 34, 40, 64, 128, 129, math.MaxInt} {
			l = append(l, addr.Prefix{A: a, Len: n})
		}
	}
	for _, a := range []addr.Addr{{}, {Six: true}, made(10, 0, 0, 0), made(ones(16)...)} {
		for _, n := range []int{-1, -8, -32, math.MinInt, 129, 130, 136, math.MaxInt} {
			l = append(l, addr.Prefix{A: a, Len: n})
		}
	}
	for _, a := range wrongs() {
		for _, n := range []int{-1, 0, 8, 32, 33, 128} {
			l = append(l, addr.Prefix{A: a, Len: n})
		}
	}
	for _, n := range []int{4, 16} {
		for length := range 8 * n {
			l = append(l, addr.Prefix{A: made(ones(n)...), Len: length})
		}
	}
	return append(l, addr.Prefix{A: made(10, 0, 0, 1), Len: 8}, addr.Prefix{A: made(10, 0, 0, 1), Len: 31}, addr.Prefix{A: six(1, 0, 0, 0, 0, 0, 0, 1), Len: 16})
}

func TestWrongPrefixes(t *testing.T) {
	for _, p := range wrongPrefixes() {
		if p.Right() {
			t.Errorf("%v is not right", p)
		}
		if p.Text() != "" {
			t.Errorf("Text of %v: %q", p, p.Text())
		}
		for _, a := range append(rights(), p.A, made(10, 9, 9, 9)) {
			if p.Has(a) {
				t.Errorf("%v, which is not right, has %v", p, a)
			}
		}
		for _, q := range []addr.Prefix{{}, {A: addr.Addr{Six: true}}, p, {A: made(10, 0, 0, 0), Len: 8}, addr.Cut(p.A, p.Len), addr.Cut(made(10, 0, 0, 0), 32)} {
			if addr.Within(p, q) || addr.Within(q, p) {
				t.Errorf("%v, which is not right, and %v: %v, %v", p, q, addr.Within(p, q), addr.Within(q, p))
			}
		}
	}
}

func TestHasAsTold(t *testing.T) {
	for _, n := range []int{4, 16} {
		base := made(mixed(n, 11)...)
		addrs := rights()
		for digit := range 8 * n {
			b := base
			b.B[digit/8] ^= 128 >> (digit % 8)
			addrs = append(addrs, b)
		}
		for length := range 8*n + 1 {
			p := cutTold(base, length)
			for _, a := range addrs {
				want := a.Six == base.Six && digits(a)[:length] == digits(base)[:length]
				if p.Has(a) != want {
					t.Errorf("%v has %v: %v, not %v", p, a, p.Has(a), want)
				}
			}
		}
	}
}

func TestPrefixesOfAll(t *testing.T) {
	four, sixteen := addr.Prefix{}, addr.Prefix{A: addr.Addr{Six: true}}
	for _, a := range rights() {
		if four.Has(a) == a.Six || sixteen.Has(a) != a.Six {
			t.Errorf("%v: %v, %v", a, four.Has(a), sixteen.Has(a))
		}
	}
	for _, a := range wrongs() {
		if four.Has(a) || sixteen.Has(a) {
			t.Errorf("%v, which is not right: %v, %v", a, four.Has(a), sixteen.Has(a))
		}
		for _, n := range []int{0, 1, 8, 32} {
			b := a
			b.B = [16]byte{a.B[0], a.B[1], a.B[2], a.B[3]}
			if p := addr.Cut(b, n); p.Has(a) || !p.Has(b) {
				t.Errorf("%v has %v: %v; %v: %v", p, a, p.Has(a), b, p.Has(b))
			}
		}
	}
}

// somePrefixes are such as are right, of all kinds of lengths, many of which
// lie within each other.
func somePrefixes() []addr.Prefix {
	var l []addr.Prefix
	for _, n := range []int{4, 16} {
		for _, b := range [][]byte{zeros(n), ones(n), mixed(n, 4), append([]byte{10}, zeros(n-1)...)} {
			for _, length := range []int{0, 1, 7, 8, 9, 15, 16, 24, 31, 32, 33, 64, 127, 128} {
				if length <= 8*n {
					l = append(l, cutTold(made(b...), length))
				}
			}
		}
	}
	return l
}

// All of p is q's, just if the least and the greatest address of p are.
func TestWithinAsTold(t *testing.T) {
	for _, p := range somePrefixes() {
		s := digits(p.A)
		greatest := ofDigits(s[:p.Len] + strings.Repeat("1", len(s)-p.Len))
		for _, q := range somePrefixes() {
			begins := func(a addr.Addr) bool { return a.Six == q.A.Six && digits(a)[:q.Len] == digits(q.A)[:q.Len] }
			want := begins(p.A) && begins(greatest)
			if addr.Within(p, q) != want {
				t.Errorf("Within(%v, %v): %v, not %v", p, q, addr.Within(p, q), want)
			}
		}
	}
}

func TestPrefixTexts(t *testing.T) {
	for _, x := range []struct {
		p    addr.Prefix
		want string
	}{
		{addr.Prefix{}, "0.0.0.0/0"},
		{addr.Prefix{A: addr.Addr{Six: true}}, "::/0"},
		{addr.Prefix{A: made(10, 0, 0, 0), Len: 8}, "10.0.0.0/8"},
		{addr.Prefix{A: made(10, 0, 0, 0), Len: 32}, "10.0.0.0/32"},
		{addr.Prefix{A: made(10, 0, 0, 255), Len: 32}, "10.0.0.255/32"},
		{addr.Prefix{A: made(10, 0, 0, 254), Len: 31}, "10.0.0.254/31"},
		{addr.Prefix{A: made(128, 0, 0, 0), Len: 1}, "128.0.0.0/1"},
		{addr.Prefix{A: six(0x2001, 0xdb8, 0, 0, 0, 0, 0, 0), Len: 32}, "2001:db8::/32"},
		{addr.Prefix{A: six(0x2001, 0xdb8, 0, 0, 0, 0, 0, 0), Len: 29}, "2001:db8::/29"},
		{addr.Prefix{A: six(0, 0, 0, 0, 0, 0, 0, 1), Len: 128}, "::1/128"},
		{addr.Prefix{A: six(1, 2, 3, 4, 5, 6, 7, 8), Len: 125}, "1:2:3:4:5:6:7:8/125"},
	} {
		if x.p.Text() != x.want {
			t.Errorf("Text of %v: %q, not %q", x.p, x.p.Text(), x.want)
		}
		wantPrefix(t, x.want, x.p)
	}
}

// The address need not stand as its own text does.
func TestParsePrefixOfOtherTexts(t *testing.T) {
	wantPrefix(t, "2001:DB8:0:0:0:0:0:0/32", addr.Prefix{A: six(0x2001, 0xdb8, 0, 0, 0, 0, 0, 0), Len: 32})
	wantPrefix(t, "2001:0db8::0/32", addr.Prefix{A: six(0x2001, 0xdb8, 0, 0, 0, 0, 0, 0), Len: 32})
	wantPrefix(t, "0:0::/0", addr.Prefix{A: addr.Addr{Six: true}})
	for n := range 33 {
		wantPrefix(t, fmt.Sprintf("0.0.0.0/%d", n), addr.Prefix{Len: n})
	}
	for n := range 129 {
		wantPrefix(t, fmt.Sprintf("::/%d", n), addr.Prefix{A: addr.Addr{Six: true}, Len: n})
	}
}

func TestParsePrefixRefuses(t *testing.T) {
	for _, s := range []string{
		"", "/", "//", "/8", "0.0.0.0", "::", "0.0.0.0/", "::/", "10.0.0.0//8", "10.0.0.0/8/", "/10.0.0.0/8", "10.0.0.0/8/8", "::/0/0",
		"0.0.0.0/00", "0.0.0.0/01", "10.0.0.0/08", "10.0.0.0/032", "::/00", "::/064", "::/0128",
		"0.0.0.0/33", "0.0.0.0/128", "0.0.0.0/-1", "0.0.0.0/-0", "0.0.0.0/+0", "::/129", "::/256", "::/1000", "::/-1", "::/99999999999999999999", "::/18446744073709551616", "0.0.0.0/4294967296",
		"10.0.0.1/8", "10.0.0.1/31", "10.0.0.1/0", "10.0.0.128/24", "1.0.0.0/7", "128.0.0.0/0", "::1/127", "::1/0", "1::/15", "8000::/0", "2001:db8::1/32", "2001:db8::/28",
		"10.0.0.0/8 ", "10.0.0.0/ 8", "10.0.0.0 /8", " 10.0.0.0/8", "10.0.0.0/8\n", "10.0.0.0/8\x00", "10.0.0.0/a", "10.0.0.0/0x8", "10.0.0.0/1_0", "10.0.0.0/1e1", "10.0.0.0/8.0", "10.0.0.0/255.0.0.0", "10.0.0.0/٨", "::/a", "::/1:",
		"10.0.0/8", "10/8", "010.0.0.0/8", "1:2/16", "1:::/16", "256.0.0.0/8", "10.0.0.0\\8", "10.0.0.0:8", "8/10.0.0.0", "any",
	} {
		wantNoPrefix(t, s)
	}
}

// Of each address, the lengths are taken behind which no digit is 1.
func TestParsePrefixOfAllLengths(t *testing.T) {
	for _, a := range rights() {
		s := digits(a)
		for n := range 140 {
			text := textTold(a) + "/" + strconv.Itoa(n)
			if n <= len(s) && !strings.Contains(s[n:], "1") {
				wantPrefix(t, text, addr.Prefix{A: a, Len: n})
			} else {
				wantNoPrefix(t, text)
			}
		}
	}
}

// P4.4

// spoil overwrites all of a slice's memory, what lies behind its length too.
func spoil(b []byte) {
	b = b[:cap(b)]
	for i := range b {
		b[i] = 0xee
	}
}

func TestFromOnlyReads(t *testing.T) {
	for n := range 20 {
		all := mixed(n+9, n)
		kept := bytes.Clone(all)
		a, _ := addr.From(all[:n])
		b := a.Bytes()
		_ = append(b, 9, 9, 9, 9)
		spoil(b)
		if !bytes.Equal(all, kept) {
			t.Errorf("what was handed in: %v, not %v", all, kept)
		}
	}
}

func TestAnswersAreNew(t *testing.T) {
	for _, n := range []int{4, 16} {
		row := mixed(n, 8)
		kept := bytes.Clone(row)
		a, _ := addr.From(row)
		first, second := a.Bytes(), a.Bytes()
		spoil(row)
		spoil(first)
		if !bytes.Equal(second, kept) || !bytes.Equal(a.Bytes(), kept) || a != made(kept...) {
			t.Errorf("behind changes: %v, %v, not %v", second, a, kept)
		}
	}
}

// Addresses and prefixes are values: what calls make of them leaves them.
func TestValuesStay(t *testing.T) {
	for _, a := range append(rights(), wrongs()...) {
		was := a
		p := addr.Prefix{A: a, Len: 5}
		q := p
		spoil(a.Bytes())
		addr.Cut(a, 3)
		a.Text()
		addr.Cmp(a, a)
		p.Text()
		p.Has(a)
		addr.Within(p, p)
		if a != was || p != q {
			t.Errorf("%v, %v, not %v, %v", a, p, was, q)
		}
	}
}

// P4.5

func TestToldIsRead(t *testing.T) {
	seen := map[string]addr.Addr{}
	for _, a := range rights() {
		wantRead(t, a.Text(), a)
		wantRead(t, strings.ToUpper(a.Text()), a)
		if b, e := addr.From(a.Bytes()); b != a || e != api.OK {
			t.Errorf("From(Bytes) of %v: %v, error %d", a, b, int(e))
		}
		if b, ok := seen[a.Text()]; ok && b != a {
			t.Errorf("%v and %v have the text %q", a, b, a.Text())
		}
		seen[a.Text()] = a
		for n := range 8*size(a) + 1 {
			p := addr.Cut(a, n)
			wantPrefix(t, p.Text(), p)
		}
	}
}

// What texts tell is told by one text, which they are read as again.
func TestReadIsToldAlike(t *testing.T) {
	for _, l := range [][]string{
		{"::1", "0::1", "0:0:0:0:0:0:0:1", "0000::0001", "::0:0:1"},
		{"2001:db8::1:0:0:1", "2001:DB8:0:0:1:0:0:1", "2001:db8:0:0:1::1", "2001:0DB8::1:0:0:1"},
		{"1::", "1:0:0:0:0:0:0:0", "1:0::", "1::0", "0001:0:0::0"},
		{"0:1:2:3:4:5:6:7", "::1:2:3:4:5:6:7", "0000:1:2:3:4:5:6:7"},
	} {
		for _, s := range l {
			if a, _ := addr.Parse(s); a.Text() != l[0] {
				t.Errorf("%q is told as %q, not %q", s, a.Text(), l[0])
			}
		}
	}
}

func TestSameTextJustOfTheSame(t *testing.T) {
	all := rights()
	for i, a := range all {
		for _, b := range all[i:] {
			if (a.Text() == b.Text()) != (a == b) || (addr.Cmp(a, b) == 0) != (a == b) {
				t.Errorf("%v and %v: %q and %q, %d", a, b, a.Text(), b.Text(), addr.Cmp(a, b))
			}
		}
	}
}

func TestAddressesAreInTheirPrefixes(t *testing.T) {
	for _, a := range rights() {
		all := 8 * size(a)
		for n := -1; n <= all+1; n++ {
			p := addr.Cut(a, n)
			if !p.Has(a) || !p.Right() {
				t.Errorf("Cut(%v, %d): %v", a, n, p)
			}
			for _, m := range []int{0, 1, 8, 31, 32, 64, all} {
				q := addr.Cut(a, m)
				if addr.Within(p, q) != (q.Len <= p.Len) {
					t.Errorf("Within(%v, %v): %v", p, q, addr.Within(p, q))
				}
			}
		}
	}
}

func TestWithinJustIfItHasTheAddress(t *testing.T) {
	all := somePrefixes()
	for _, p := range all {
		for _, q := range append(slices.Clone(all), wrongPrefixes()...) {
			if addr.Within(p, q) != (q.Has(p.A) && q.Len <= p.Len) {
				t.Errorf("Within(%v, %v): %v, has %v", p, q, addr.Within(p, q), q.Has(p.A))
			}
		}
	}
}
