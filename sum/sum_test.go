package sum_test

import (
	"bytes"
	"slices"
	"testing"

	"octroi/sum"
)

// foldedTold is the folded sum of a number, as the section 'Words' tells it.
func foldedTold(n uint64) uint16 {
	for n > 65535 {
		n = n%65536 + n/65536
	}
	return uint16(n)
}

// wordsTold are the words of rows that are laid as one row, as the section
// 'Words' tells them.
func wordsTold(rows ...[]byte) []uint16 {
	b := bytes.Join(rows, nil)
	if len(b)%2 == 1 {
		b = append(b, 0)
	}
	var l []uint16
	for i := 0; i < len(b); i += 2 {
		l = append(l, uint16(b[i])*256+uint16(b[i+1]))
	}
	return l
}

// folded is the folded sum of rows, and told their checksum, by the words.
func folded(rows ...[]byte) uint16 {
	var n uint64
	for _, w := range wordsTold(rows...) {
		n += uint64(w)
	}
	return foldedTold(n)
}

func told(rows ...[]byte) uint16 { return 65535 - folded(rows...) }

func wholeTold(rows ...[]byte) bool {
	f := folded(rows...)
	return f == 65535 || f == 0
}

func changeTold(c, from, to uint16) uint16 {
	n := uint64(65535-c) + uint64(65535-from) + uint64(to)
	return 65535 - foldedTold(n)
}

// mixed is a row of n bytes without a plain order.
func mixed(n, seed int) []byte {
	b := make([]byte, n)
	x := uint32(seed)*2654435761 + 12345
	for i := range b {
		x = x*1664525 + 1013904223
		b[i] = byte(x >> 24)
	}
	return b
}

func repeat(x byte, n int) []byte { return bytes.Repeat([]byte{x}, n) }

// row is that of words.
func row(words ...uint16) []byte {
	var b []byte
	for _, w := range words {
		b = append(b, byte(w>>8), byte(w))
	}
	return b
}

// rows are empty ones, ordinary ones of odd and even lengths, and such as are
// all of one byte.
func rows() [][]byte {
	l := [][]byte{nil, {}, {1, 2, 3}, {1, 2, 254, 253}, {255}, {0}, {0, 1}, {1, 0}}
	for _, n := range []int{1, 2, 3, 4, 5, 7, 8, 15, 16, 20, 33, 40, 101, 256} {
		l = append(l, mixed(n, n), make([]byte, n), repeat(255, n))
	}
	return l
}

// edges are words about the bounds of their numbers, and of their bytes.
func edges() []uint16 {
	return []uint16{0, 1, 2, 254, 255, 256, 257, 32766, 32767, 32768, 32769, 65279, 65280, 65281, 65533, 65534, 65535}
}

func wantSum(t *testing.T, what string, got, want uint16) {
	t.Helper()
	if got != want {
		t.Errorf("%s: %d, not %d", what, got, want)
	}
}

func wantWhole(t *testing.T, what string, want bool, l ...[]byte) {
	t.Helper()
	if got := sum.Whole(l...); got != want {
		t.Errorf("%s, %v: whole is %v, not %v", what, l, got, want)
	}
}

// wantState holds a Sum's checksum and length against those of bytes.
func wantState(t *testing.T, what string, s *sum.Sum, b []byte) {
	t.Helper()
	if s.Value() != told(b) || s.Len() != len(b) {
		t.Errorf("%s: checksum %d of %d bytes, not %d of %d", what, s.Value(), s.Len(), told(b), len(b))
	}
}

// P3.1

func TestExamples(t *testing.T) {
	wantSum(t, "Of(1 2, 3)", sum.Of([]byte{1, 2}, []byte{3}), 64509)
	wantSum(t, "Of(1 2 3)", sum.Of([]byte{1, 2, 3}), 64509)
	wantSum(t, "Of()", sum.Of(), 65535)
	wantWhole(t, "zeros", true, []byte{0, 0})
	wantWhole(t, "words of 65535 together", true, []byte{1, 2, 254, 253})
	wantSum(t, "Change(64509, 768, 769)", sum.Change(64509, 768, 769), 64508)
	// Those of RFC 1071, of a header of IPv4, and of RFC 1624.
	wantSum(t, "a known row", sum.Of([]byte{0x00, 0x01, 0xf2, 0x03, 0xf4, 0xf5, 0xf6, 0xf7}), 0x220d)
	wantSum(t, "a known header", sum.Of([]byte{
		0x45, 0, 0, 0x73, 0, 0, 0x40, 0, 0x40, 0x11, 0, 0, 0xc0, 0xa8, 0, 1, 0xc0, 0xa8, 0, 0xc7}), 0xb861)
	wantSum(t, "a known change", sum.Change(0xdd2f, 0x5555, 0x3285), 0)
}

func TestOfNothing(t *testing.T) {
	none := [][][]byte{nil, {}, {nil}, {{}}, {nil, {}, nil}, {{}, {}, {}, {}}}
	for _, l := range none {
		wantSum(t, "Of nothing", sum.Of(l...), 65535)
		wantWhole(t, "nothing", true, l...)
	}
}

func TestOfOneRowAsTold(t *testing.T) {
	for _, b := range rows() {
		wantSum(t, "Of", sum.Of(b), told(b))
		wantWhole(t, "one row", wholeTold(b), b)
	}
}

// A row that ends amid a word is gone on with in that word.
func TestOfRowsAsTold(t *testing.T) {
	for _, a := range rows() {
		for _, b := range rows() {
			wantSum(t, "Of two rows", sum.Of(a, b), told(a, b))
			wantWhole(t, "two rows", wholeTold(a, b), a, b)
		}
	}
	all := [][]byte{mixed(3, 1), nil, mixed(1, 2), mixed(5, 3), {}, mixed(2, 4), mixed(1, 5), nil}
	for n := range len(all) + 1 {
		wantSum(t, "Of many rows", sum.Of(all[:n]...), told(all[:n]...))
	}
}

func TestOfOddRows(t *testing.T) {
	for _, x := range []struct {
		rows [][]byte
		want uint16
	}{
		{[][]byte{{7}}, 65535 - 1792},
		{[][]byte{{7}, {}}, 65535 - 1792},
		{[][]byte{{7}, {9}}, 65535 - 1801},
		{[][]byte{{7}, nil, {9}}, 65535 - 1801},
		{[][]byte{{}, {7}, {9, 1}}, 65535 - 1801 - 256},
		{[][]byte{{7}, {9, 1}, {2}}, 65535 - 1801 - 258},
		{[][]byte{{7, 9, 1}, {2, 3}}, 65535 - 1801 - 258 - 768},
		{[][]byte{{255}}, 255},
		{[][]byte{{255}, {255}}, 0},
		{[][]byte{{0}, {255}}, 65280},
	} {
		wantSum(t, "Of odd rows", sum.Of(x.rows...), x.want)
	}
}

// A row may be cut anywhere: its checksum stays.
func TestOfRowsCutAnywhere(t *testing.T) {
	b := mixed(23, 6)
	for i := range len(b) + 1 {
		for j := i; j <= len(b); j++ {
			wantSum(t, "Of a row that is cut", sum.Of(b[:i], b[i:j], b[j:]), told(b))
		}
	}
	single := make([][]byte, len(b))
	for i := range b {
		single[i] = b[i : i+1]
	}
	wantSum(t, "Of a row of single bytes", sum.Of(single...), told(b))
}

func TestOfEachWord(t *testing.T) {
	for w := range 65536 {
		b := row(uint16(w))
		wantSum(t, "Of one word", sum.Of(b), uint16(65535-w))
		wantSum(t, "Of a word in two rows", sum.Of(b[:1], b[1:]), uint16(65535-w))
	}
	for x := range 256 {
		wantSum(t, "Of one byte", sum.Of([]byte{byte(x)}), uint16(65535-256*x))
	}
}

// Each of these sums is above 65535 still, when it was folded once.
func TestFoldedMoreThanOnce(t *testing.T) {
	for _, x := range []struct {
		words []uint16
		want  uint16
	}{
		{[]uint16{65535, 65535, 1}, 1},
		{[]uint16{65535, 65535, 2}, 2},
		{[]uint16{1, 65535, 65535}, 1},
		{[]uint16{65535, 1, 65535, 65535, 65534, 2}, 2},
		{[]uint16{65535, 65535, 65535, 2}, 2},
	} {
		b := row(x.words...)
		wantSum(t, "Of words", sum.Of(b), 65535-x.want)
		wantWhole(t, "words", false, b)
		single := make([][]byte, 0, len(b))
		for i := range b {
			single = append(single, b[i:i+1])
		}
		wantSum(t, "Of single bytes", sum.Of(single...), 65535-x.want)
	}
	// A sum that is itself more than two words long.
	long := repeat(255, 1<<18)
	for _, tail := range []int{0, 1, 2, 3, 4, 7} {
		for _, end := range [][]byte{nil, {0, 1}, {1}, {0, 0, 2}, {254, 255}} {
			b := long[:len(long)-tail]
			wantSum(t, "Of a long row", sum.Of(b, end), told(b, end))
		}
	}
}

func TestWholeIsOfTwoSumsAlone(t *testing.T) {
	for w := range 65536 {
		wantWhole(t, "one word", w == 0 || w == 65535, row(uint16(w)))
	}
	for x := range 256 {
		wantWhole(t, "one byte", x == 0, []byte{byte(x)})
	}
	for _, n := range []int{2, 3, 4, 5, 9, 20} {
		wantWhole(t, "zeros", true, make([]byte, n))
		wantWhole(t, "ones", n%2 == 0, repeat(255, n))
	}
	wantWhole(t, "whole as one row, not as two", true, []byte{255}, []byte{255})
	wantWhole(t, "whole as two rows, not as one", false, []byte{127}, []byte{128, 127, 255})
}

// A slice with memory behind its length is gone over to its length alone.
func TestRowsEndAtTheirLengths(t *testing.T) {
	b := mixed(20, 3)
	for n := range b {
		wantSum(t, "Of", sum.Of(b[:n]), told(bytes.Clone(b[:n])))
		wantSum(t, "Of two", sum.Of(b[:n], b[3:4]), told(bytes.Clone(b[:n]), b[3:4]))
		var s sum.Sum
		s.Add(b[:n]...)
		wantState(t, "Add", &s, bytes.Clone(b[:n]))
	}
	wantWhole(t, "zeros ahead of others", true, []byte{0, 0, 7, 7}[:2])
	wantWhole(t, "a zero ahead of others", true, []byte{0, 7, 7}[:1])
}

func TestChangeAsTold(t *testing.T) {
	for _, c := range edges() {
		for _, from := range edges() {
			for _, to := range edges() {
				wantSum(t, "Change", sum.Change(c, from, to), changeTold(c, from, to))
			}
		}
	}
}

func TestChangeAtTheBounds(t *testing.T) {
	for _, x := range []struct{ sum, from, to, want uint16 }{
		{65535, 65535, 0, 65535}, // a sum of 0, the least one
		{65535, 65535, 1, 65534},
		{65535, 65535, 65535, 0},
		{65535, 65534, 65535, 65534}, // a sum of 65536
		{65535, 0, 0, 0},
		{0, 65535, 0, 0},
		{0, 65535, 65535, 0},
		{0, 0, 0, 0},
		{0, 0, 1, 65534}, // a sum of 131071, that is folded twice
		{0, 0, 2, 65533},
		{0, 0, 65534, 1},
		{0, 0, 65535, 0}, // a sum of 196605, the greatest one
		{1, 0, 1, 0},
		{1, 0, 2, 65534},
		{32768, 32768, 32767, 32769},
	} {
		wantSum(t, "Change", sum.Change(x.sum, x.from, x.to), x.want)
		wantSum(t, "Change as told", changeTold(x.sum, x.from, x.to), x.want)
	}
}

// P3.2

func TestZeroSumHasNoBytes(t *testing.T) {
	var s sum.Sum
	for _, z := range []*sum.Sum{&s, new(sum.Sum), {}} {
		wantState(t, "a zero Sum", z, nil)
		if z.Value() != 65535 || z.Len() != 0 {
			t.Errorf("a zero Sum: %d, %d", z.Value(), z.Len())
		}
		z.Add()
		z.Add([]byte{}...)
		z.Add([]byte(nil)...)
		wantState(t, "a zero Sum, behind nothing", z, nil)
	}
}

func TestNilSum(t *testing.T) {
	var s *sum.Sum
	for range 3 {
		if s.Value() != 65535 || s.Len() != 0 {
			t.Errorf("a nil Sum: %d, %d", s.Value(), s.Len())
		}
		s.Add()
		s.Add(1)
		s.Add(repeat(255, 9)...)
	}
}

func TestAddByteByByte(t *testing.T) {
	for _, b := range [][]byte{mixed(300, 5), make([]byte, 30), repeat(255, 301)} {
		var s sum.Sum
		for i := range b {
			s.Add(b[i])
			wantState(t, "Add of a byte", &s, b[:i+1])
		}
	}
}

func TestAddOfRows(t *testing.T) {
	for _, b := range rows() {
		var s sum.Sum
		s.Add(b...)
		wantState(t, "Add of a row", &s, b)
		for _, more := range rows() {
			two := s
			two.Add(more...)
			wantState(t, "Add of two rows", &two, bytes.Join([][]byte{b, more}, nil))
		}
		wantState(t, "a Sum, of which a copy went on", &s, b)
	}
}

// All ways to cut a row of 11 bytes, each one with an Add of nothing in it.
func TestAddOfAllLengths(t *testing.T) {
	b := append(mixed(8, 7), 255, 255, 255)
	for cuts := range 1 << (len(b) - 1) {
		var s sum.Sum
		from := 0
		for i := range b {
			if i == len(b)-1 || cuts>>i&1 == 1 {
				s.Add(b[from : i+1]...)
				from = i + 1
			}
		}
		wantState(t, "Add of pieces", &s, b)
		s.Add()
		wantState(t, "Add of nothing", &s, b)
	}
}

// Value and Len only tell: asked for amid a word, they leave it as it is.
func TestValueAndLenBetween(t *testing.T) {
	var s sum.Sum
	var all []byte
	for _, n := range []int{1, 0, 3, 2, 1, 1, 0, 5, 4, 7, 2, 9, 1} {
		b := mixed(n, n+3)
		s.Add(b...)
		all = append(all, b...)
		for range 3 {
			wantState(t, "between", &s, all)
		}
	}
	wantSum(t, "Of the same bytes", sum.Of(all), s.Value())
}

func TestAddFoldsMoreThanOnce(t *testing.T) {
	var s sum.Sum
	s.Add(255, 255)
	wantSum(t, "65535", s.Value(), 0)
	s.Add(255, 255, 0, 1)
	wantSum(t, "131071", s.Value(), 65534)
	s.Add(repeat(255, 1<<18)...)
	wantSum(t, "a long row behind it", s.Value(), 65534)
	if s.Len() != 1<<18+6 {
		t.Errorf("Len: %d", s.Len())
	}
	s.Add(0)
	s.Add(repeat(255, 1<<18)...)
	want := []byte{255, 255, 255, 255, 0, 1}
	want = append(want, repeat(255, 1<<18)...)
	want = append(want, 0)
	want = append(want, repeat(255, 1<<18)...)
	wantState(t, "a long row amid a word", &s, want)
}

// Only a sum of zeros is 0: one that comes round stays at 65535.
func TestSumComesRound(t *testing.T) {
	var s sum.Sum
	s.Add(0, 0, 0)
	wantSum(t, "zeros", s.Value(), 65535)
	s.Add(0, 255, 255)
	wantSum(t, "65535", s.Value(), 0)
	for range 5 {
		s.Add(255, 255, 0, 0)
		wantSum(t, "65535 again", s.Value(), 0)
	}
}

func TestTwoSumsAreApart(t *testing.T) {
	var a, b sum.Sum
	a.Add(1)
	b.Add(2, 3, 4)
	a.Add(5)
	b.Add(6)
	wantState(t, "the first one", &a, []byte{1, 5})
	wantState(t, "the second one", &b, []byte{2, 3, 4, 6})
	sum.Of([]byte{9}, []byte{9, 9})
	sum.Whole([]byte{9})
	wantState(t, "the first one, behind Of", &a, []byte{1, 5})
	a.Add(7)
	wantState(t, "the first one, gone on with", &a, []byte{1, 5, 7})
}

// P3.3

// spoil overwrites all of a slice's memory, what lies behind its length too.
func spoil(b []byte) {
	b = b[:cap(b)]
	for i := range b {
		b[i] = 0xee
	}
}

func TestOnlyRead(t *testing.T) {
	for n := range 12 {
		all := mixed(n+9, n)
		kept := bytes.Clone(all)
		part, end := all[:n], all[n:n+1]
		list := [][]byte{part, nil, end, part, {}, end}
		inside := list[:3]
		sum.Of(inside...)
		sum.Whole(inside...)
		var s, none *sum.Sum = new(sum.Sum), nil
		s.Add(part...)
		s.Add(end...)
		s.Add(part...)
		none.Add(part...)
		s.Value()
		if !bytes.Equal(all, kept) {
			t.Errorf("what was handed in: %v, not %v", all, kept)
		}
		same := len(list[1]) == 0 && bytes.Equal(list[3], part) && len(list[4]) == 0 && bytes.Equal(list[5], end)
		if !same || !bytes.Equal(list[0], part) || !bytes.Equal(list[2], end) {
			t.Errorf("the list that was handed in: %v", list)
		}
	}
}

func TestNotKept(t *testing.T) {
	for n := range 12 {
		b := mixed(n, n+1)
		kept := bytes.Clone(b)
		var s sum.Sum
		s.Add(b...)
		spoil(b)
		wantState(t, "a Sum, behind a change of what was handed in", &s, kept)
		b = mixed(3, n)
		kept = append(kept, b...)
		s.Add(b...)
		spoil(b)
		wantState(t, "a Sum gone on with", &s, kept)
		wantSum(t, "Of, behind all", sum.Of(kept), told(kept))
	}
}

// P3.4

func TestWholeWithTheChecksum(t *testing.T) {
	for _, b := range rows() {
		c := row(sum.Of(b))
		if len(b)%2 == 0 {
			wantWhole(t, "with the checksum", true, b, c)
			wantWhole(t, "with the checksum in one row", true, append(bytes.Clone(b), c...))
			wantWhole(t, "with the checksum ahead", true, c, b)
			var s sum.Sum
			s.Add(b...)
			s.Add(row(s.Value())...)
			wantSum(t, "a Sum with its checksum", s.Value(), 0)
		}
		wantWhole(t, "with a byte 0 amid", true, b, make([]byte, len(b)%2), c)
	}
}

// Of an odd number of bytes the checksum stands amid a word.
func TestOddBytesWithTheChecksum(t *testing.T) {
	for _, b := range [][]byte{{1}, {255}, {1, 2, 3}, mixed(9, 2)} {
		c := row(sum.Of(b))
		wantWhole(t, "an odd number of bytes", wholeTold(b, c), b, c)
	}
	wantWhole(t, "1 and its checksum", false, []byte{1}, row(sum.Of([]byte{1})))
}

// Each other word is told, but for 0 in place of 65535, which are alike.
func TestAnotherWordIsTold(t *testing.T) {
	words := wordsTold(mixed(20, 4))
	words[3], words[6] = 0, 65535
	words = append(words, sum.Of(row(words...)))
	for i, was := range words {
		for _, is := range append(edges(), was+1, was-1, was^256, was^1) {
			alike := was == is || was%65535 == 0 && is%65535 == 0
			words[i] = is
			wantWhole(t, "with another word", alike, row(words...))
		}
		words[i] = was
	}
	wantWhole(t, "with its own words", true, row(words...))
}

// So is each other checksum, but for 0 and 65535.
func TestAnotherChecksumIsTold(t *testing.T) {
	for _, b := range [][]byte{nil, {0, 0}, {255, 255}, {1, 2}, mixed(40, 8)} {
		right := sum.Of(b)
		for c := range 65536 {
			alike := uint16(c) == right || right%65535 == 0 && c%65535 == 0
			wantWhole(t, "with a checksum", alike, b, row(uint16(c)))
		}
	}
}

func TestNoOrderOfWords(t *testing.T) {
	words := wordsTold(mixed(24, 9))
	words = append(words, 0, 65535, 65535, 1)
	want := told(row(words...))
	for turn := range len(words) {
		for step := range len(words) {
			l := append(slices.Clone(words[turn:]), words[:turn]...)
			l[0], l[step] = l[step], l[0]
			wantSum(t, "Of words in another order", sum.Of(row(l...)), want)
			var s sum.Sum
			for _, w := range l {
				s.Add(row(w)...)
			}
			wantSum(t, "Add of words in another order", s.Value(), want)
		}
	}
	slices.Reverse(words)
	wantSum(t, "Of words from the last one on", sum.Of(row(words...)), want)
}

// The bytes of a word do have an order.
func TestOrderOfBytes(t *testing.T) {
	wantSum(t, "Of 1 2", sum.Of([]byte{1, 2}), 65535-258)
	wantSum(t, "Of 2 1", sum.Of([]byte{2, 1}), 65535-513)
	wantSum(t, "Of 1, 2", sum.Of([]byte{1}, []byte{2}), 65535-258)
	wantSum(t, "Of 2, 1", sum.Of([]byte{2}, []byte{1}), 65535-513)
}

// wantChanged changes one word of words, whose one at place check is their
// checksum, and asks whether they are whole with that of Change.
func wantChanged(t *testing.T, words []uint16, check, at int, is uint16) {
	t.Helper()
	l := slices.Clone(words)
	l[check] = sum.Change(l[check], l[at], is)
	l[at] = is
	wantWhole(t, "changed", true, row(l...))
}

func TestChangeKeepsWhole(t *testing.T) {
	for _, b := range [][]byte{{0, 0}, {255, 255}, {0, 1, 255, 254}, {1, 2, 3, 4}, mixed(20, 3), make([]byte, 20), repeat(255, 20)} {
		words := wordsTold(b)
		for check := range len(words) + 1 {
			l := slices.Insert(slices.Clone(words), check, sum.Of(b))
			wantWhole(t, "ahead of the change", true, row(l...))
			for at := range l {
				if at == check {
					continue
				}
				for _, is := range edges() {
					wantChanged(t, l, check, at, is)
				}
			}
		}
	}
}

// Zeros are whole with a checksum 0, too.
func TestChangeKeepsZerosWhole(t *testing.T) {
	for is := range 65536 {
		wantChanged(t, []uint16{0, 0, 0}, 1, 2, uint16(is))
		wantChanged(t, []uint16{0, 65535, 0}, 1, 2, uint16(is))
	}
}

// From change to change, the checksum is that of the bytes as they are, but
// that it may be 0 where that is 65535.
func TestChangeGoesOn(t *testing.T) {
	words := wordsTold(mixed(12, 5))
	c := sum.Of(row(words...))
	for i, is := range wordsTold(mixed(600, 6)) {
		at := i % len(words)
		c = sum.Change(c, words[at], is)
		words[at] = is
		right := told(row(words...))
		if c != right && (c != 0 || right != 65535) {
			t.Fatalf("change %d: %d, not %d", i, c, right)
		}
		wantWhole(t, "gone on with", true, row(words...), row(c))
	}
}
