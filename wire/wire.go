// Package wire: numbers, and readers of texts.
package wire

import (
	"slices"
	"strings"

	"switchyard/api"
)

// widest is how many bytes a number has at the most.
const widest = 8

// Reader reads a text, from its beginning on, till something is wrong.
type Reader struct {
	rest  string  // what is not read yet
	at    int     // the number of its first byte
	fault *api.At // what was wrong first
}

// Put is a number as n bytes, the greatest first. ErrRange: n is not from 1 to 8; ErrFull: the number has more.
func Put(x uint64, n int) (string, error) {
	if !isWidth(n) {
		return "", api.ErrRange
	}
	// A shift by all 64 bits leaves 0: eight bytes have room for every number.
	if x>>(8*n) != 0 {
		return "", api.ErrFull
	}
	b := make([]byte, n)
	for i := range b {
		b[n-1-i] = byte(x >> (8 * i))
	}
	return string(b), nil
}

// Must is a number as n bytes, of what has no more; it is empty where Put has an error.
func Must(x, n int) string {
	s, _ := Put(uint64(x), n)
	return s
}

// Fits says whether all numbers are from 0 to the greatest one of n bytes.
func Fits(n int, l ...int) bool {
	for _, x := range l {
		// Below 0, a number would be taken for one of eight bytes.
		if _, err := Put(uint64(x), n); err != nil || x < 0 {
			return false
		}
	}
	return true
}

// isWidth says whether a number may have n bytes.
func isWidth(n int) bool { return n >= 1 && n <= widest }

// New reads a text whose first byte has a number.
func New(s string, off int) *Reader { return &Reader{rest: s, at: off} }

// Left is how many bytes are left.
func (r *Reader) Left() int { return len(r.rest) }

// At is the number of the next byte.
func (r *Reader) At() int { return r.at }

// Err is the first thing that was wrong.
func (r *Reader) Err() error {
	if r.fault == nil {
		return nil
	}
	// A copy: who changes an error does not change what this Reader, or a Reader of a part, has noted.
	fault := *r.fault
	return &fault
}

// Fail notes that something is wrong, from a byte on, unless something was already.
func (r *Reader) Fail(e api.Errno, at int) {
	if r.fault == nil {
		r.fault = &api.At{Err: e, Place: at}
	}
}

// Bytes are the next n. ErrRange: n is below 0; ErrMissing: there are not so many.
func (r *Reader) Bytes(n int) string {
	switch {
	case n < 0:
		r.Fail(api.ErrRange, r.at)
	case n > len(r.rest):
		r.Fail(api.ErrMissing, r.at)
	}
	if r.fault != nil {
		return ""
	}
	s := r.rest[:n]
	r.rest, r.at = r.rest[n:], r.at+n
	return s
}

// Num is the number of the next n bytes, from 1 to 8. ErrRange: n is another; ErrMissing: there are not so many.
func (r *Reader) Num(n int) int {
	if !isWidth(n) {
		r.Fail(api.ErrRange, r.at)
		return 0
	}
	x := uint64(0)
	for _, b := range []byte(r.Bytes(n)) {
		x = x<<8 | uint64(b)
	}
	return int(x)
}

// Expect reads as many bytes as a text has, and is what they are: this text, or another one. ErrForm: they are none of these; ErrMissing: there are not so many.
func (r *Reader) Expect(text string, others ...string) string {
	at := r.at
	s := r.Bytes(len(text))
	if s != text && !slices.Contains(others, s) {
		// Bytes that are missing have been noted by then, and stay what was wrong first.
		r.Fail(api.ErrForm, at)
		return ""
	}
	return s
}

// Zeros says whether all that is left is 0, and nothing was wrong before. (It is read then.) ErrSpoilt, at the first that isn't.
func (r *Reader) Zeros() bool {
	spoilt := strings.TrimLeft(r.rest, "\x00")
	r.Bytes(len(r.rest) - len(spoilt))
	if spoilt != "" {
		r.Fail(api.ErrSpoilt, r.at)
	}
	return r.fault == nil
}

// Sub reads the next n bytes apart. What was wrong here, they not being there included, is wrong there, too.
func (r *Reader) Sub(n int) *Reader {
	part := New("", r.at)
	part.rest = r.Bytes(n)
	part.fault = r.fault
	return part
}
