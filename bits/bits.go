// Package bits is layer 1: numbers in rows of bytes. See shared/doc/01-bits.md.
package bits

import "octroi/api"

// maxSize is the greatest size of a number: that of a uint64.
const maxSize = 8

// Writer puts numbers behind each other. A zero one is empty; two values of
// one writer would share a row, so it is handed on by its pointer.
type Writer struct {
	row []byte
}

// Reader gets numbers from a row of its own.
type Reader struct {
	rest []byte
	at   int
}

// Put puts a number behind all else.
func (w *Writer) Put(v uint64, size int) api.Errno {
	if w == nil {
		return api.ErrNil
	}
	if !fits(v, size) {
		return api.ErrArg
	}
	at := len(w.row)
	w.row = append(w.row, make([]byte, size)...)
	lay(w.row[at:], v)
	return api.OK
}

// Raw puts bytes behind all else.
func (w *Writer) Raw(b ...byte) api.Errno {
	if w == nil {
		return api.ErrNil
	}
	w.row = append(w.row, b...)
	return api.OK
}

// Set puts a number in place of bytes that are there.
func (w *Writer) Set(at int, v uint64, size int) api.Errno {
	if w == nil {
		return api.ErrNil
	}
	if !fits(v, size) || at < 0 || !reaches(w.row, at, size) {
		return api.ErrArg
	}
	lay(w.row[at:at+size], v)
	return api.OK
}

// Bytes are all that were put.
func (w *Writer) Bytes() []byte {
	if w == nil {
		return nil
	}
	return clone(w.row)
}

// Len is how many.
func (w *Writer) Len() int {
	if w == nil {
		return 0
	}
	return len(w.row)
}

// Read is a reader at the beginning of a copy of b, so that the caller may go
// on changing its own.
func Read(b []byte) *Reader {
	return &Reader{rest: clone(b)}
}

// Get is the next number, which the reader is behind then.
func (r *Reader) Get(size int) (uint64, api.Errno) {
	if r == nil {
		return 0, api.ErrNil
	}
	v, e := Get(r.rest, 0, size)
	if e != api.OK {
		return 0, e
	}
	r.skip(size)
	return v, api.OK
}

// Take are the next bytes, which the reader is behind then.
func (r *Reader) Take(n int) ([]byte, api.Errno) {
	if r == nil {
		return nil, api.ErrNil
	}
	if n < 0 {
		return nil, api.ErrArg
	}
	if !reaches(r.rest, 0, n) {
		return nil, api.ErrShort
	}
	b := clone(r.rest[:n])
	r.skip(n)
	return b, api.OK
}

// Left is how many bytes are left.
func (r *Reader) Left() int {
	if r == nil {
		return 0
	}
	return len(r.rest)
}

// At is the reader's place.
func (r *Reader) At() int {
	if r == nil {
		return 0
	}
	return r.at
}

// Get is the number of a size from a place on.
func Get(b []byte, at, size int) (uint64, api.Errno) {
	if !isSize(size) || at < 0 {
		return 0, api.ErrArg
	}
	if !reaches(b, at, size) {
		return 0, api.ErrShort
	}
	return number(b[at : at+size]), api.OK
}

// Least is the least size that a number fits.
func Least(v uint64) int {
	size := 1
	for v > 0xff {
		v >>= 8
		size++
	}
	return size
}

// skip leaves the first n bytes of the rest behind. The rest's capacity ends
// with its bytes: what memory lies behind them is no part of the row.
func (r *Reader) skip(n int) {
	r.rest = r.rest[n:len(r.rest):len(r.rest)]
	r.at += n
}

// clone is b in new memory. An empty b gives nil, so that not even its place
// in the caller's memory is kept.
func clone(b []byte) []byte {
	return append([]byte(nil), b...)
}

// isSize tells whether a number may have that size.
func isSize(size int) bool {
	return size >= 1 && size <= maxSize
}

// fits tells whether v can stand as that many bytes.
func fits(v uint64, size int) bool {
	return isSize(size) && Least(v) <= size
}

// reaches tells whether b has n bytes from at on. The sum of at and n could
// wrap, their difference to a length cannot, as neither is below 0.
func reaches(b []byte, at, n int) bool {
	return n <= len(b)-at
}

// lay writes v over all of b, the greatest byte first.
func lay(b []byte, v uint64) {
	for i := range len(b) {
		b[len(b)-1-i] = byte(v >> (8 * i))
	}
}

// number is what all of b, the greatest byte first, stands for.
func number(b []byte) uint64 {
	var v uint64
	for i := range len(b) {
		v = v<<8 | uint64(b[i])
	}
	return v
}
