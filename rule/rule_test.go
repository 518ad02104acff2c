package rule_test

import (
	"math"
	"slices"
	"testing"

	"octroi/addr"
	"octroi/api"
	"octroi/packet"
	"octroi/rule"
)

// anyTold is the rule that asks for nothing, as 'Words' tell it.
func anyTold() rule.Rule {
	return rule.Rule{Proto: -1, SrcPorts: rule.Ports{Hi: 65535}, DstPorts: rule.Ports{Hi: 65535}}
}

// asking is the rule that asks for nothing, with changes.
func asking(changes ...func(r *rule.Rule)) rule.Rule {
	r := anyTold()
	for _, lay := range changes {
		lay(&r)
	}
	return r
}

// Each of these lays one part into a rule.
func version(v int) func(r *rule.Rule) { return func(r *rule.Rule) { r.Version = v } }
func proto(p int) func(r *rule.Rule)   { return func(r *rule.Rule) { r.Proto = p } }
func src(s string) func(r *rule.Rule)  { return func(r *rule.Rule) { r.Src = prefix(s) } }
func dst(s string) func(r *rule.Rule)  { return func(r *rule.Rule) { r.Dst = prefix(s) } }
func from(lo, hi uint16) func(r *rule.Rule) {
	return func(r *rule.Rule) { r.SrcPorts = rule.Ports{Lo: lo, Hi: hi} }
}
func to(lo, hi uint16) func(r *rule.Rule) {
	return func(r *rule.Rule) { r.DstPorts = rule.Ports{Lo: lo, Hi: hi} }
}
func ofClass(n int) func(r *rule.Rule) { return func(r *rule.Rule) { r.Class = n } }
func denied(r *rule.Rule)              { r.Deny = true }

// prefix is the one that a text tells.
func prefix(s string) addr.Prefix {
	p, e := addr.ParsePrefix(s)
	if e != api.OK {
		panic("the test itself tells no prefix: " + s)
	}
	return p
}

// address is the one that a text tells.
func address(s string) addr.Addr {
	a, e := addr.Parse(s)
	if e != api.OK {
		panic("the test itself tells no address: " + s)
	}
	return a
}

// key is the one of these parts.
func key(proto uint8, src string, srcPort uint16, dst string, dstPort uint16) packet.Key {
	return packet.Key{Src: address(src), Dst: address(dst), Proto: proto, SrcPort: srcPort, DstPort: dstPort}
}

// made is a classifier that may be.
func made(t *testing.T, deny bool, class int, l ...rule.Rule) *rule.Classifier {
	t.Helper()
	c, e := rule.New(deny, class, l...)
	if e != api.OK || c == nil {
		t.Fatalf("New(%v, %d, %+v): %v, error %d", deny, class, l, c, int(e))
	}
	return c
}

// keys are such as are right: of each address, with ports of TCP and UDP, and
// with those of other protocols.
func keys() []packet.Key {
	var l []packet.Key
	pairs := [][2]string{
		{"10.0.0.1", "1.2.3.4"}, {"10.255.255.255", "10.0.0.0"}, {"9.255.255.255", "11.0.0.0"}, {"0.0.0.0", "255.255.255.255"}, {"10.128.0.1", "10.127.255.255"},
		{"2001:db8::1", "::1"}, {"::", "ffff:ffff:ffff:ffff:ffff:ffff:ffff:ffff"}, {"a00:1::", "2001:db9::"}, {"2001:db8:8000::", "2001:db8:7fff::5"},
	}
	for _, a := range pairs {
		for _, p := range [][2]uint16{{0, 0}, {5, 80}, {79, 81}, {80, 82}, {81, 79}, {65535, 65535}, {65534, 1}} {
			l = append(l, key(6, a[0], p[0], a[1], p[1]), key(17, a[0], p[0], a[1], p[1]), key(1, a[0], 0, a[1], p[1]), key(58, a[0], 0, a[1], p[1]))
		}
		for _, proto := range []uint8{0, 2, 5, 7, 16, 18, 47, 132, 255} {
			l = append(l, key(proto, a[0], 0, a[1], 0))
		}
	}
	return l
}

// wrongKeys are made by hand, and no packet's.
func wrongKeys() []packet.Key {
	long := key(6, "10.0.0.1", 1, "10.0.0.2", 2)
	long.Src.B[4] = 1
	behind := key(17, "10.0.0.1", 1, "10.0.0.2", 2)
	behind.Dst.B[15] = 128
	return []packet.Key{
		long, behind, {SrcPort: 1}, key(1, "10.0.0.1", 80, "10.0.0.2", 80), key(47, "::1", 80, "::2", 80),
		key(6, "10.0.0.1", 80, "::1", 80), key(6, "::1", 80, "10.0.0.1", 80), key(0, "::", 1, "0.0.0.0", 1),
	}
}

// singles are parts that a rule that is right may ask for, each as it is laid.
func singles() [][]func(r *rule.Rule) {
	return [][]func(r *rule.Rule){
		{version(0), version(4), version(6)},
		{proto(-1), proto(0), proto(1), proto(6), proto(17), proto(58), proto(255)},
		{src("0.0.0.0/0"), src("10.0.0.0/8"), src("10.128.0.0/9"), src("10.0.0.1/32"), src("128.0.0.0/1"), src("::/0"), src("2001:db8::/32"), src("2001:db8:8000::/33"), src("::/128"), src("a00:1::/32")},
		{dst("0.0.0.0/0"), dst("10.0.0.0/8"), dst("0.0.0.0/1"), dst("1.2.3.4/32"), dst("::/0"), dst("2001:db8::/32"), dst("::1/128")},
		{from(0, 65535), from(0, 0), from(5, 80), from(79, 80), from(80, 80), from(65535, 65535), from(1, 65535), from(0, 65534)},
		{to(0, 65535), to(0, 0), to(80, 81), to(79, 82), to(81, 81), to(65535, 65535), to(1, 65535), to(0, 65534)},
	}
}

// rules are such as are right: each part by itself, and many mixed.
func rules(n int) []rule.Rule {
	l := []rule.Rule{anyTold(), {}, asking(denied)}
	for _, some := range singles() {
		for _, lay := range some {
			l = append(l, asking(lay))
		}
	}
	x := uint32(7)
	next := func(n int) int {
		x = x*1664525 + 1013904223
		return int(x>>16) % n
	}
	for len(l) < n {
		r := anyTold()
		for _, some := range singles() {
			if next(3) > 0 {
				some[next(len(some))](&r)
			}
		}
		if r.Deny = next(4) == 0; !r.Deny {
			r.Class = next(8)
		}
		if rightTold(r) {
			l = append(l, r)
		}
	}
	return l
}

// wrongRules are such as are not right, by one part each.
func wrongRules() []rule.Rule {
	var l []rule.Rule
	for _, v := range []int{-1, 1, 2, 3, 5, 7, 8, 46, 260, 1 << 32, 1<<32 + 4, math.MinInt, math.MaxInt} {
		l = append(l, asking(version(v)))
	}
	for _, p := range []int{-2, 256, 262, 65536, 1<<32 + 6, math.MinInt, math.MaxInt} {
		l = append(l, asking(proto(p)))
	}
	for _, p := range wrongPrefixes() {
		l = append(l, asking(func(r *rule.Rule) { r.Src = p }), asking(func(r *rule.Rule) { r.Dst = p }))
	}
	for _, s := range []string{"10.0.0.0/8", "0.0.0.0/1", "0.0.0.0/32"} {
		l = append(l, asking(version(6), src(s)), asking(version(6), dst(s)))
	}
	for _, s := range []string{"::/0", "::/1", "::/128", "2001:db8::/32"} {
		l = append(l, asking(version(4), src(s)), asking(version(4), dst(s)))
	}
	for _, p := range [][2]uint16{{1, 0}, {65535, 0}, {65535, 65534}, {256, 255}, {81, 80}} {
		l = append(l, asking(from(p[0], p[1])), asking(to(p[0], p[1])), asking(proto(1), from(p[0], p[1])))
	}
	for _, n := range []int{-1, 8, 9, 256, 1 << 32, math.MinInt, math.MaxInt} {
		l = append(l, asking(ofClass(n)), asking(ofClass(n), denied))
	}
	for n := 1; n < 8; n++ {
		l = append(l, asking(ofClass(n), denied))
	}
	return l
}

// wrongPrefixes are such as are not right.
func wrongPrefixes() []addr.Prefix {
	long := address("10.0.0.0")
	long.B[15] = 1
	return []addr.Prefix{
		{Len: -1}, {Len: 33}, {Len: math.MaxInt}, {Len: math.MinInt}, {A: addr.Addr{Six: true}, Len: -1}, {A: addr.Addr{Six: true}, Len: 129},
		{A: address("10.0.0.1"), Len: 8}, {A: address("10.0.0.0"), Len: 6}, {A: address("2001:db8::1"), Len: 127}, {A: long, Len: 8}, {A: long, Len: 32}, {A: long},
	}
}

// prefixTold tells whether a prefix is right, looked at digit by digit.
func prefixTold(p addr.Prefix) bool {
	digits := 32
	if p.A.Six {
		digits = 128
	}
	if p.Len < 0 || p.Len > digits {
		return false
	}
	for i := p.Len; i < 128; i++ {
		if digit(p.A, i) != 0 {
			return false
		}
	}
	return true
}

// digit is a binary one of an address.
func digit(a addr.Addr, i int) byte { return a.B[i/8] >> (7 - i%8) % 2 }

// rightTold tells whether a rule is right, as 'Words' tell it.
func rightTold(r rule.Rule) bool {
	versions := r.Version == 0 || r.Version == 4 || r.Version == 6
	protos := r.Proto >= -1 && r.Proto <= 255
	ranges := r.SrcPorts.Lo <= r.SrcPorts.Hi && r.DstPorts.Lo <= r.DstPorts.Hi
	classes := r.Class >= 0 && r.Class <= 7 && !r.Deny || r.Deny && r.Class == 0
	for _, p := range []addr.Prefix{r.Src, r.Dst} {
		if p == (addr.Prefix{}) {
			continue
		}
		if !prefixTold(p) || r.Version == 4 && p.A.Six || r.Version == 6 && !p.A.Six {
			return false
		}
	}
	return versions && protos && ranges && classes
}

// fitsTold tells whether a rule fits a key that is right, as 'Words' tell it.
func fitsTold(r rule.Rule, k packet.Key) bool {
	if !rightTold(r) {
		return false
	}
	if r.Version == 4 && k.Src.Six || r.Version == 6 && !k.Src.Six {
		return false
	}
	if r.Proto != -1 && r.Proto != int(k.Proto) {
		return false
	}
	return hasTold(r.Src, k.Src) && hasTold(r.Dst, k.Dst) && amongTold(r.SrcPorts, k.Proto, k.SrcPort) && amongTold(r.DstPorts, k.Proto, k.DstPort)
}

// hasTold tells whether an address is one that a prefix asks for.
func hasTold(p addr.Prefix, a addr.Addr) bool {
	if p == (addr.Prefix{}) {
		return true
	}
	if p.A.Six != a.Six {
		return false
	}
	for i := range p.Len {
		if digit(p.A, i) != digit(a, i) {
			return false
		}
	}
	return true
}

// amongTold tells whether a port is one that a range asks for.
func amongTold(p rule.Ports, proto uint8, port uint16) bool {
	if p.Lo == 0 && p.Hi == 65535 {
		return true
	}
	return (proto == 6 || proto == 17) && p.Lo <= port && port <= p.Hi
}

// whichTold is the place of the first rule that fits.
func whichTold(l []rule.Rule, k packet.Key) int {
	for i, r := range l {
		if fitsTold(r, k) {
			return i
		}
	}
	return -1
}

// classTold is what the rules tell, and what is told where none fits.
func classTold(deny bool, class int, l []rule.Rule, k packet.Key) (int, api.Errno) {
	if i := whichTold(l, k); i >= 0 {
		deny, class = l[i].Deny, l[i].Class
	}
	if deny {
		return 0, api.ErrDeny
	}
	return class, api.OK
}

// deadTold are the places of rules that can never tell, as P9.3 tells it.
func deadTold(l []rule.Rule) []int {
	var dead []int
	for i, r := range l {
		for _, a := range l[:i] {
			if (a.Version == 0 || a.Version == r.Version) && (a.Proto == -1 || a.Proto == r.Proto) &&
				withinTold(r.Src, a.Src) && withinTold(r.Dst, a.Dst) &&
				a.SrcPorts.Lo <= r.SrcPorts.Lo && r.SrcPorts.Hi <= a.SrcPorts.Hi &&
				a.DstPorts.Lo <= r.DstPorts.Lo && r.DstPorts.Hi <= a.DstPorts.Hi {
				dead = append(dead, i)
				break
			}
		}
	}
	return dead
}

// withinTold tells whether q asks for nothing, or has all addresses of p.
func withinTold(p, q addr.Prefix) bool {
	return q == addr.Prefix{} || q.Len <= p.Len && hasTold(q, p.A)
}

// wantClasses holds what a classifier answers of keys against what its rules
// tell; and what it counts, which was nothing ahead.
func wantClasses(t *testing.T, deny bool, class int, l []rule.Rule, some []packet.Key) {
	t.Helper()
	c := made(t, deny, class, l...)
	hits := make([]uint64, len(l)+1)
	for _, k := range some {
		at := whichTold(l, k)
		if got := c.Which(k); got != at {
			t.Fatalf("Which(%s) of %+v: %d, not %d", k.Text(), l, got, at)
		}
		want, e := classTold(deny, class, l, k)
		if got, f := c.Class(k); got != want || f != e {
			t.Fatalf("Class(%s) of %+v: %d, error %d, not %d, error %d", k.Text(), l, got, int(f), want, int(e))
		}
		if at < 0 {
			at = len(l)
		}
		hits[at]++
	}
	if got := c.Hits(); !slices.Equal(got, hits) {
		t.Fatalf("Hits of %+v: %v, not %v", l, got, hits)
	}
}

// examples are the rules of the chapter's examples.
func examples() []rule.Rule {
	return []rule.Rule{asking(proto(6), to(80, 81), ofClass(1)), asking(src("10.0.0.0/8"), denied)}
}

func TestExamples(t *testing.T) {
	c := made(t, false, 2, examples()...)
	for _, x := range []struct {
		k    packet.Key
		want int
		e    api.Errno
		at   int
	}{
		{key(6, "10.0.0.1", 5, "1.2.3.4", 80), 1, api.OK, 0},
		{key(17, "10.0.0.1", 5, "1.2.3.4", 80), 0, api.ErrDeny, 1},
		{key(17, "9.0.0.1", 5, "1.2.3.4", 80), 2, api.OK, -1},
	} {
		if at := c.Which(x.k); at != x.at {
			t.Errorf("Which(%s): %d", x.k.Text(), at)
		}
		if n, e := c.Class(x.k); n != x.want || e != x.e {
			t.Errorf("Class(%s): %d, error %d", x.k.Text(), n, int(e))
		}
	}
	if l := c.Hits(); !slices.Equal(l, []uint64{1, 1, 1}) {
		t.Errorf("Hits: %v", l)
	}
	if l := c.Dead(); len(l) != 0 {
		t.Errorf("Dead: %v", l)
	}
	if l := made(t, false, 2, slices.Concat([]rule.Rule{rule.Any()}, examples())...).Dead(); !slices.Equal(l, []int{1, 2}) {
		t.Errorf("Dead: %v", l)
	}
}

func TestAny(t *testing.T) {
	r := rule.Any()
	if r != anyTold() || !rule.Right(r) {
		t.Errorf("%+v, right: %v", r, rule.Right(r))
	}
	for _, k := range slices.Concat(keys(), wrongKeys()) {
		if !rule.Fits(r, k) {
			t.Errorf("does not fit %+v", k)
		}
	}
}

func TestRight(t *testing.T) {
	for _, r := range rules(3000) {
		if !rule.Right(r) {
			t.Errorf("not right: %+v", r)
		}
	}
	for _, r := range wrongRules() {
		if rightTold(r) || rule.Right(r) {
			t.Errorf("right: %+v", r)
		}
	}
}

func TestRightOfEachVersionAndProtocol(t *testing.T) {
	for v := -300; v <= 300; v++ {
		if got := rule.Right(asking(version(v))); got != (v == 0 || v == 4 || v == 6) {
			t.Errorf("version %d: %v", v, got)
		}
		if got := rule.Right(asking(proto(v))); got != (v >= -1 && v <= 255) {
			t.Errorf("protocol %d: %v", v, got)
		}
		if got := rule.Right(asking(ofClass(v))); got != (v >= 0 && v <= 7) {
			t.Errorf("class %d: %v", v, got)
		}
		if got := rule.Right(asking(ofClass(v), denied)); got != (v == 0) {
			t.Errorf("denied, class %d: %v", v, got)
		}
	}
}

func TestRightOfPrefixes(t *testing.T) {
	var l []addr.Prefix
	for _, s := range []string{"10.255.3.129", "0.0.0.0", "255.255.255.255", "2001:db8::1:0:0:1", "::", "ffff:ffff:ffff:ffff:ffff:ffff:ffff:ffff"} {
		for n := -1; n <= 129; n++ {
			l = append(l, addr.Cut(address(s), n), addr.Prefix{A: address(s), Len: n})
		}
	}
	for _, p := range slices.Concat(l, wrongPrefixes()) {
		for _, v := range []int{0, 4, 6} {
			for _, r := range []rule.Rule{
				asking(version(v), func(r *rule.Rule) { r.Src = p }),
				asking(version(v), func(r *rule.Rule) { r.Dst = p }),
				asking(version(v), func(r *rule.Rule) { r.Src, r.Dst = p, p }),
			} {
				if got, want := rule.Right(r), rightTold(r); got != want {
					t.Errorf("%+v: right is %v", r, got)
				}
			}
		}
	}
	for _, v := range []int{0, 4, 6} {
		if !rule.Right(asking(version(v), src("0.0.0.0/0"), dst("0.0.0.0/0"))) {
			t.Errorf("the zero prefix does not go with version %d", v)
		}
	}
}

func TestRightOfRanges(t *testing.T) {
	ports := []uint16{0, 1, 2, 79, 80, 255, 256, 32767, 32768, 65534, 65535}
	for _, lo := range ports {
		for _, hi := range ports {
			for _, r := range []rule.Rule{asking(from(lo, hi)), asking(to(lo, hi)), asking(proto(47), from(lo, hi)), asking(proto(17), from(lo, hi), to(lo, hi))} {
				if got := rule.Right(r); got != (lo <= hi) {
					t.Errorf("%+v: right is %v", r, got)
				}
			}
		}
	}
}

func TestFits(t *testing.T) {
	all := keys()
	fit, unfit := 0, 0
	for _, r := range rules(1200) {
		for _, k := range all {
			want := fitsTold(r, k)
			if got := rule.Fits(r, k); got != want {
				t.Fatalf("Fits(%+v, %s): %v", r, k.Text(), got)
			}
			if want {
				fit++
			} else {
				unfit++
			}
		}
	}
	if fit < 10000 || unfit < 10000 {
		t.Errorf("%d fit, %d do not", fit, unfit)
	}
}

func TestFitsOfOneThatIsNotRight(t *testing.T) {
	for _, r := range wrongRules() {
		for _, k := range slices.Concat(keys(), wrongKeys()) {
			if rule.Fits(r, k) {
				t.Fatalf("%+v fits %+v", r, k)
			}
		}
	}
}

func TestFitsOfEachProtocol(t *testing.T) {
	for p := range 256 {
		for _, k := range []packet.Key{key(uint8(p), "10.0.0.1", 0, "10.0.0.2", 0), key(uint8(p), "::1", 0, "::2", 0)} {
			for q := -1; q < 256; q++ {
				if got := rule.Fits(asking(proto(q)), k); got != (q == -1 || q == p) {
					t.Fatalf("protocol %d, %s: %v", q, k.Text(), got)
				}
			}
			hasPorts := p == 6 || p == 17
			for _, r := range []rule.Rule{asking(from(0, 65534)), asking(to(0, 65534)), asking(from(0, 0)), asking(to(0, 0)), asking(proto(p), from(0, 0), to(0, 80))} {
				if got := rule.Fits(r, k); got != hasPorts {
					t.Errorf("%+v, %s: %v", r, k.Text(), got)
				}
			}
		}
	}
}

func TestFitsOfEachPort(t *testing.T) {
	for _, p := range [][2]uint16{{0, 65535}, {0, 0}, {80, 81}, {80, 80}, {256, 511}, {65535, 65535}, {1, 65534}} {
		for port := range 65536 {
			want := port >= int(p[0]) && port <= int(p[1])
			if rule.Fits(asking(from(p[0], p[1])), key(6, "::1", uint16(port), "::2", 7)) != want || rule.Fits(asking(to(p[0], p[1])), key(17, "1.2.3.4", 7, "1.2.3.5", uint16(port))) != want {
				t.Fatalf("%v, port %d", p, port)
			}
		}
	}
	r := asking(from(5, 5), to(80, 80))
	if !rule.Fits(r, key(6, "::1", 5, "::2", 80)) || rule.Fits(r, key(6, "::1", 80, "::2", 5)) {
		t.Error("source and destination are not told apart")
	}
}

// The type and the code of ICMP stand where ports do, and are none.
func TestFitsOfTypesAndCodes(t *testing.T) {
	for _, k := range []packet.Key{key(1, "10.0.0.1", 0, "10.0.0.2", 2048), key(58, "::1", 0, "::2", 32768)} {
		if rule.Fits(asking(to(k.DstPort, k.DstPort)), k) || rule.Fits(asking(from(0, 0)), k) || !rule.Fits(asking(to(0, 65535)), k) {
			t.Error(k.Text())
		}
	}
}

func TestFitsOfPrefixes(t *testing.T) {
	for _, s := range []string{"10.171.85.3", "2001:db8:aaaa:5555::1"} {
		a := address(s)
		last := 32
		if a.Six {
			last = 128
		}
		other := address("0.0.0.0")
		if other.Six = a.Six; a.Six {
			other = address("::")
		}
		for n := 0; n <= last; n++ {
			p := addr.Cut(a, n)
			for i := range last {
				b := a
				b.B[i/8] ^= 128 >> (i % 8)
				want := i >= n
				if got := rule.Fits(asking(func(r *rule.Rule) { r.Src = p }), packet.Key{Src: b, Dst: other, Proto: 6}); got != want {
					t.Fatalf("source %s, %s: %v", p.Text(), b.Text(), got)
				}
				if got := rule.Fits(asking(func(r *rule.Rule) { r.Dst = p }), packet.Key{Src: other, Dst: b, Proto: 6}); got != want {
					t.Fatalf("destination %s, %s: %v", p.Text(), b.Text(), got)
				}
			}
		}
	}
}

// All addresses of sixteen bytes are asked for by ::/0, while 0.0.0.0/0 asks
// for nothing.
func TestFitsOfPrefixesWithoutDigits(t *testing.T) {
	four, six := key(6, "10.0.0.1", 1, "10.0.0.2", 2), key(6, "::1", 1, "::2", 2)
	for _, lay := range []func(s string) func(r *rule.Rule){src, dst} {
		if rule.Fits(asking(lay("::/0")), four) || !rule.Fits(asking(lay("::/0")), six) || !rule.Fits(asking(lay("0.0.0.0/0")), four) || !rule.Fits(asking(lay("0.0.0.0/0")), six) {
			t.Error("prefixes without digits")
		}
	}
	if r := asking(src("10.0.0.0/8"), dst("::/0")); !rule.Right(r) || rule.Fits(r, four) || rule.Fits(r, six) {
		t.Error("prefixes of both versions")
	}
}

func TestNew(t *testing.T) {
	for _, n := range []int{0, 1, 63, 64} {
		l := slices.Repeat([]rule.Rule{anyTold()}, n)
		for class := range 8 {
			made(t, false, class, l...)
		}
		c := made(t, true, 0, l...)
		if len(c.Hits()) != n+1 {
			t.Errorf("%d rules: %v", n, c.Hits())
		}
	}
	if c, e := rule.New(true, 0, []rule.Rule(nil)...); c == nil || e != api.OK {
		t.Errorf("no rules: error %d", int(e))
	}
}

// wantNone holds New against the error that it tells.
func wantNone(t *testing.T, want api.Errno, deny bool, class int, l ...rule.Rule) {
	t.Helper()
	if c, e := rule.New(deny, class, l...); c != nil || e != want {
		t.Errorf("New(%v, %d, %d rules): %v, error %d, not %d", deny, class, len(l), c, int(e), int(want))
	}
}

func TestNewOfWhatMayNotBe(t *testing.T) {
	for _, n := range []int{65, 66, 128, 1000} {
		l := slices.Repeat([]rule.Rule{anyTold()}, n)
		wantNone(t, api.ErrLimit, false, 0, l...)
		wantNone(t, api.ErrLimit, false, 8, l...)
		l[0].Proto = 300
		wantNone(t, api.ErrLimit, true, -1, l...)
	}
	for _, wrong := range wrongRules() {
		wantNone(t, api.ErrArg, false, 0, wrong)
		wantNone(t, api.ErrArg, true, 0, anyTold(), wrong)
		l := slices.Repeat([]rule.Rule{anyTold()}, 64)
		l[63] = wrong
		wantNone(t, api.ErrArg, false, 7, l...)
		l[31], l[63] = wrong, anyTold()
		wantNone(t, api.ErrArg, false, 7, l...)
	}
	for _, n := range []int{-1, 8, 9, 256, 1 << 32, math.MinInt, math.MaxInt} {
		wantNone(t, api.ErrArg, false, n)
		wantNone(t, api.ErrArg, false, n, anyTold())
	}
}

// What denies others has no class to be told: whatever is handed in as one, it
// is the same classifier; and that does not help what is refused for its rules.
func TestNewThatDeniesOthersOfAnyClass(t *testing.T) {
	mixed, some := rules(200)[100:], slices.Concat(keys(), wrongKeys())
	for i, class := range []int{-1, 0, 1, 2, 3, 4, 5, 6, 7, 8, 9, 256, 1 << 32, math.MinInt, math.MaxInt} {
		for _, l := range [][]rule.Rule{nil, {asking(proto(17), ofClass(3))}, mixed[i : i+16]} {
			wantClasses(t, true, class, l, keys())
			c, d := made(t, true, class, l...), made(t, true, 0, l...)
			for _, k := range some {
				n, e := c.Class(k)
				if m, f := d.Class(k); n != m || e != f || c.Which(k) != d.Which(k) {
					t.Fatalf("class %d, %d rules, %+v: %d, error %d, not %d, error %d", class, len(l), k, n, int(e), m, int(f))
				}
			}
			if !slices.Equal(c.Hits(), d.Hits()) || !slices.Equal(c.Dead(), d.Dead()) {
				t.Errorf("class %d, %d rules: %v, %v", class, len(l), c.Hits(), c.Dead())
			}
		}
		for _, wrong := range wrongRules() {
			wantNone(t, api.ErrArg, true, class, wrong)
			wantNone(t, api.ErrArg, true, class, anyTold(), wrong)
		}
		wantNone(t, api.ErrLimit, true, class, slices.Repeat([]rule.Rule{anyTold()}, 65)...)
	}
}

func TestClasses(t *testing.T) {
	all, some := rules(2000), keys()
	for i := 0; i < len(all); {
		n := min(i%65, len(all)-i)
		wantClasses(t, i%3 == 0, i%3*(i%4), all[i:i+n], some)
		i += n + 1
	}
	wantClasses(t, false, 7, nil, some)
	wantClasses(t, true, 0, nil, some)
}

// Of the rules the first one that fits tells, whatever its class.
func TestTheFirstRuleTells(t *testing.T) {
	k := key(6, "10.0.0.1", 5, "1.2.3.4", 80)
	fitting := []rule.Rule{asking(ofClass(7)), asking(proto(6), ofClass(3)), asking(denied), asking(to(80, 80)), asking(src("10.0.0.0/8"), ofClass(1))}
	for i := range fitting {
		l := slices.Concat([]rule.Rule{asking(proto(17), denied), asking(version(6), ofClass(6))}, fitting[i:], fitting[:i])
		wantClasses(t, true, 0, l, []packet.Key{k, k})
		if at := made(t, true, 0, l...).Which(k); at != 2 {
			t.Errorf("Which: %d", at)
		}
	}
}

func TestHits(t *testing.T) {
	c := made(t, true, 0, examples()...)
	tell := []packet.Key{key(6, "10.0.0.1", 5, "1.2.3.4", 80), key(17, "10.0.0.1", 5, "1.2.3.4", 80), key(17, "9.0.0.1", 5, "1.2.3.4", 80)}
	want := make([]uint64, 3)
	if l := c.Hits(); !slices.Equal(l, want) {
		t.Errorf("at first: %v", l)
	}
	for i := range 600 {
		at := i * i % 7 % 3
		c.Class(tell[at])
		want[at]++
		for _, k := range tell {
			c.Which(k)
		}
		c.Dead()
		if l := c.Hits(); !slices.Equal(l, want) {
			t.Fatalf("%v, not %v", l, want)
		}
	}
}

// What one classifier counts another one does not, be it of the same rules.
func TestHitsOfTwo(t *testing.T) {
	l := examples()
	a, b := made(t, false, 0, l...), made(t, false, 0, l...)
	k := key(6, "10.0.0.1", 5, "1.2.3.4", 80)
	a.Class(k)
	copied := *a
	copied.Class(k)
	if !slices.Equal(a.Hits(), []uint64{1, 0, 0}) || !slices.Equal(b.Hits(), []uint64{0, 0, 0}) || !slices.Equal(copied.Hits(), []uint64{2, 0, 0}) {
		t.Errorf("%v, %v, %v", a.Hits(), b.Hits(), copied.Hits())
	}
}

func TestNilClassifier(t *testing.T) {
	var c *rule.Classifier
	for _, k := range slices.Concat(keys(), wrongKeys()) {
		if n, e := c.Class(k); n != 0 || e != api.ErrNil {
			t.Errorf("Class: %d, error %d", n, int(e))
		}
		if at := c.Which(k); at != -1 {
			t.Errorf("Which: %d", at)
		}
	}
	if c.Hits() != nil || c.Dead() != nil {
		t.Errorf("%v, %v", c.Hits(), c.Dead())
	}
}

// A classifier that New did not make has no rules.
func TestZeroClassifier(t *testing.T) {
	var c rule.Classifier
	k := key(6, "10.0.0.1", 5, "1.2.3.4", 80)
	if n, e := c.Class(k); n != 0 || e != api.OK || c.Which(k) != -1 || len(c.Dead()) != 0 || !slices.Equal(c.Hits(), []uint64{1}) {
		t.Errorf("%d, error %d, %d, %v, %v", n, int(e), c.Which(k), c.Dead(), c.Hits())
	}
}

func TestDead(t *testing.T) {
	for i, x := range []struct {
		l    []rule.Rule
		want []int
	}{
		{nil, nil},
		{[]rule.Rule{anyTold()}, nil},
		{[]rule.Rule{anyTold(), anyTold(), anyTold()}, []int{1, 2}},
		{[]rule.Rule{asking(denied), asking(proto(6), ofClass(3)), asking(ofClass(7))}, []int{1, 2}},
		{[]rule.Rule{asking(proto(6)), anyTold(), asking(proto(6)), asking(proto(17))}, []int{2, 3}},
		{[]rule.Rule{asking(proto(6)), asking(proto(17)), asking(proto(6), ofClass(2)), asking(proto(0))}, []int{2}},
		{[]rule.Rule{asking(proto(0)), anyTold(), asking(proto(1))}, []int{2}},
		{[]rule.Rule{asking(version(4)), asking(version(6)), asking(version(4), proto(6)), asking(version(6), dst("::/0"))}, []int{2, 3}},
		{[]rule.Rule{asking(version(4)), asking(src("10.0.0.0/8"))}, nil},
		{[]rule.Rule{asking(src("::/0")), asking(version(6))}, nil},
		{[]rule.Rule{asking(src("::/0")), asking(src("2001:db8::/32")), asking(src("10.0.0.0/8")), anyTold()}, []int{1}},
		{[]rule.Rule{asking(src("10.0.0.0/8")), asking(src("10.0.0.0/8"), denied), asking(src("10.128.0.0/9")), asking(src("10.0.0.0/7")), asking(src("11.0.0.0/8"))}, []int{1, 2, 4}},
		{[]rule.Rule{asking(dst("2001:db8::/32")), asking(dst("2001:db8:1::/48")), asking(src("2001:db8:1::/48")), asking(dst("2001:db8::/31"))}, []int{1}},
		{[]rule.Rule{asking(from(80, 90)), asking(from(80, 90)), asking(from(80, 91)), asking(from(79, 90)), asking(from(81, 89)), asking(to(81, 89))}, []int{1, 4}},
		{[]rule.Rule{asking(to(80, 90)), asking(to(90, 90)), asking(to(91, 91)), asking(to(79, 79)), asking(to(0, 65535)), asking(to(3, 4))}, []int{1, 5}},
		{[]rule.Rule{asking(from(0, 65534)), asking(from(1, 65535)), asking(from(1, 65534)), anyTold(), asking(proto(47))}, []int{2, 4}},
		{[]rule.Rule{asking(proto(47), to(80, 80)), asking(proto(47)), asking(proto(47), to(80, 80), src("10.0.0.0/8"))}, []int{2}},
		{[]rule.Rule{asking(proto(6), src("10.0.0.0/8")), asking(proto(6)), asking(src("10.0.0.0/8")), asking(src("10.0.0.0/8"), proto(6), to(1, 1))}, []int{3}},
		{[]rule.Rule{asking(src("0.0.0.0/1")), asking(src("128.0.0.0/1")), anyTold()}, nil},
	} {
		if got := made(t, false, 0, x.l...).Dead(); !slices.Equal(got, x.want) || !slices.Equal(deadTold(x.l), x.want) {
			t.Errorf("%d: %v, the test itself %v, not %v", i, got, deadTold(x.l), x.want)
		}
	}
}

// A dead rule tells nothing, and is left out without any packet's noticing.
func TestDeadRulesLeftOut(t *testing.T) {
	all, some := rules(3000), keys()
	found := 0
	for i := 0; i+64 <= len(all); i += 50 {
		l := all[i : i+64]
		c := made(t, true, 0, l...)
		dead := c.Dead()
		if !slices.Equal(dead, deadTold(l)) {
			t.Fatalf("%+v: %v, not %v", l, dead, deadTold(l))
		}
		found += len(dead)
		var left []rule.Rule
		for j, r := range l {
			if !slices.Contains(dead, j) {
				left = append(left, r)
			}
		}
		d := made(t, true, 0, left...)
		for _, k := range slices.Concat(some, wrongKeys()) {
			n, e := c.Class(k)
			if m, f := d.Class(k); n != m || e != f {
				t.Fatalf("%+v: %d, error %d, and without those that are dead %d, error %d", k, n, int(e), m, int(f))
			}
		}
		for _, j := range dead {
			if c.Hits()[j] != 0 {
				t.Errorf("a dead rule told: %+v", l[j])
			}
		}
		if l := d.Dead(); len(l) != 0 {
			t.Errorf("dead of those left: %v", l)
		}
	}
	if found < 100 {
		t.Errorf("%d are dead", found)
	}
}

func TestRulesBehindAnyAreDead(t *testing.T) {
	all := rules(400)
	for i := 3; i+20 < len(all); i += 20 {
		l := slices.Concat(all[i:i+10], []rule.Rule{asking(ofClass(5))}, all[i+10:i+20])
		dead := made(t, false, 0, l...).Dead()
		for j := 11; j < len(l); j++ {
			if !slices.Contains(dead, j) {
				t.Errorf("%+v is not dead", l[j])
			}
		}
		c, d := made(t, false, 0, l...), made(t, false, 0, l[:11]...)
		for _, k := range keys() {
			if c.Which(k) != d.Which(k) || c.Which(k) < 0 {
				t.Errorf("%s: %d, %d", k.Text(), c.Which(k), d.Which(k))
			}
		}
	}
}

func TestRulesSideBySideExchanged(t *testing.T) {
	all, some := rules(1500), keys()
	exchanged := 0
	for i := 0; i+4 <= len(all); i += 3 {
		l := all[i : i+4]
		c, d := made(t, false, 7, l...), made(t, false, 7, l[0], l[2], l[1], l[3])
		for _, k := range some {
			if rule.Fits(l[1], k) && rule.Fits(l[2], k) {
				continue
			}
			n, e := c.Class(k)
			if m, f := d.Class(k); n != m || e != f {
				t.Fatalf("%+v: %s: %d, error %d, and exchanged %d, error %d", l, k.Text(), n, int(e), m, int(f))
			}
			exchanged++
		}
	}
	if exchanged < 1000 {
		t.Errorf("%d were told of", exchanged)
	}
}

func TestKeysMadeByHand(t *testing.T) {
	all := rules(640)
	for i := 0; i+64 <= len(all); i += 64 {
		l := all[i : i+64]
		c := made(t, false, 7, l...)
		for _, k := range wrongKeys() {
			at := slices.IndexFunc(l, func(r rule.Rule) bool { return rule.Fits(r, k) })
			n, e := c.Class(k)
			switch {
			case c.Which(k) != at:
				t.Errorf("%+v: %d, not %d", k, c.Which(k), at)
			case at < 0 && (n != 7 || e != api.OK), at >= 0 && l[at].Deny && (n != 0 || e != api.ErrDeny), at >= 0 && !l[at].Deny && (n != l[at].Class || e != api.OK):
				t.Errorf("%+v: rule %d, %d, error %d", k, at, n, int(e))
			}
		}
	}
}

// A key of addresses of both versions has neither.
func TestKeysOfBothVersions(t *testing.T) {
	for _, k := range []packet.Key{key(6, "10.0.0.1", 80, "::1", 80), key(6, "::1", 80, "10.0.0.1", 80)} {
		if rule.Fits(asking(version(4)), k) || rule.Fits(asking(version(6)), k) || !rule.Fits(asking(version(0), proto(6)), k) {
			t.Errorf("%+v", k)
		}
	}
}

func TestOnlyReadAndNotKept(t *testing.T) {
	row := slices.Concat(examples(), []rule.Rule{asking(ofClass(6)), asking(ofClass(4))})
	before := slices.Clone(row)
	c := made(t, false, 2, row[:2]...)
	k := key(17, "9.0.0.1", 5, "1.2.3.4", 80)
	c.Class(k)
	c.Dead()
	if !slices.Equal(row, before) {
		t.Errorf("what was handed in is changed: %+v", row)
	}
	for i := range row {
		row[i] = asking(denied)
	}
	if n, e := c.Class(k); n != 2 || e != api.OK || c.Which(k) != -1 || len(c.Dead()) != 0 {
		t.Errorf("what was handed in is kept: %d, error %d, %d, %v", n, int(e), c.Which(k), c.Dead())
	}
}

func TestNewMemory(t *testing.T) {
	c := made(t, false, 2, anyTold(), asking(proto(6)), anyTold())
	k := key(17, "9.0.0.1", 5, "1.2.3.4", 80)
	c.Class(k)
	first, second := c.Hits(), c.Hits()
	for i := range first[:cap(first)] {
		first[:cap(first)][i] = 9
	}
	if want := []uint64{1, 0, 0, 0}; !slices.Equal(second, want) || !slices.Equal(c.Hits(), want) {
		t.Errorf("%v, %v", second, c.Hits())
	}
	c.Class(k)
	if second[0] != 1 || c.Hits()[0] != 2 {
		t.Errorf("%v, %v", second, c.Hits())
	}
	a, b := c.Dead(), c.Dead()
	for i := range a {
		a[i] = 9
	}
	if want := []int{1, 2}; !slices.Equal(b, want) || !slices.Equal(c.Dead(), want) {
		t.Errorf("%v, %v", b, c.Dead())
	}
}
