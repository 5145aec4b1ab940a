// Package octets is layer 1: see shared/doc/01-octets.md.
package octets

import (
	"bytes"
	"iter"
)

// Put puts a number's bytes behind others.
func Put(b []byte, size int, n uint64) []byte {
	if !isSize(size) {
		return bytes.Clone(b)
	}
	// Not append to b: its capacity may belong to somebody else.
	out := make([]byte, len(b), len(b)+size)
	copy(out, b)
	for left := size - 1; left >= 0; left-- {
		out = append(out, byte(n>>(8*left)))
	}
	return out
}

// Get is the number that stands first.
func Get(b []byte, size int) (n uint64, rest []byte, ok bool) {
	if !isSize(size) || len(b) < size {
		return 0, nil, false
	}
	return number(b[:size]), bytes.Clone(b[size:]), true
}

// Rows are numbers, one behind the other.
func Rows(b []byte, size int) iter.Seq[uint64] {
	// A copy: b may change before the numbers are ranged over.
	return rows(bytes.Clone(b), size)
}

// Count is how many numbers there are.
func Count(b []byte, size int) int {
	n := 0
	for range rows(b, size) {
		n++
	}
	return n
}

// rows yields from b itself, without a copy.
func rows(b []byte, size int) iter.Seq[uint64] {
	return func(yield func(uint64) bool) {
		if !isSize(size) {
			return
		}
		for from := 0; size <= len(b)-from; from += size {
			if !yield(number(b[from : from+size])) {
				return
			}
		}
	}
}

func isSize(size int) bool { return 1 <= size && size <= 8 }

func number(b []byte) uint64 {
	var n uint64
	for _, x := range b {
		n = n<<8 | uint64(x)
	}
	return n
}

// remains are the bytes that were not read yet.
type remains []byte

// cut takes the first n bytes off, if there are as many.
func (l *remains) cut(n int) ([]byte, bool) {
	if n < 0 || n > len(*l) {
		return nil, false
	}
	head := (*l)[:n]
	*l = (*l)[n:]
	return head, true
}

// Reader reads bytes.
type Reader struct {
	remains
	good bool // good, not bad: a Reader that New did not make is bad
}

// New is a reader of bytes.
func New(b []byte) *Reader { return &Reader{remains: bytes.Clone(b), good: true} }

// Number is the next one.
func (r *Reader) Number(size int) uint64 {
	if !isSize(size) {
		size = -1 // as many bytes as there never are
	}
	return number(r.next(size))
}

// Take are the next bytes.
func (r *Reader) Take(n int) []byte { return bytes.Clone(r.next(n)) }

// Left is how many bytes are left.
func (r *Reader) Left() int {
	if r.Bad() {
		return 0
	}
	return len(r.remains)
}

// Bad tells whether something was not there.
func (r *Reader) Bad() bool { return r == nil || !r.good }

// next are the next n bytes; if there are fewer, none, and r is bad.
func (r *Reader) next(n int) []byte {
	if r.Bad() {
		return nil
	}
	head, ok := r.cut(n)
	if !ok {
		*r = Reader{} // bad, with nothing left
	}
	return head
}
