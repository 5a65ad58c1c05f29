// Package octet writes numbers as bytes of fixed widths, and reads them. It is layer 1: see shared/doc/01-octet.md.
package octet

import (
	"math/bits"

	"casemate/api"
)

// Number is a number of a fixed width, without a sign.
type Number interface {
	uint8 | uint16 | uint32 | uint64
}

// width is how many bytes a number of that kind has.
func width[T Number]() int {
	return bits.Len64(uint64(^T(0))) / 8
}

// Put is a number's bytes, the greatest first.
func Put[T Number](v T) []byte {
	n := width[T]()
	b := make([]byte, n)
	for i := range n {
		b[n-1-i] = byte(uint64(v) >> (8 * i))
	}
	return b
}

// Get is the number whose bytes stand in b from at on.
func Get[T Number](b []byte, at int) (T, api.Errno) {
	n := width[T]()
	if at < 0 {
		return 0, api.ErrArg
	}
	// A difference, since at + n could leave its type.
	if len(b)-at < n {
		return 0, api.ErrShort
	}
	var v uint64
	for i := range n {
		v = v<<8 | uint64(b[at+i])
	}
	return T(v), api.OK
}

// Same tells whether bytes are the same. It looks at all of them, so that how long it takes does not tell where they are unlike.
func Same(a, b []byte) bool {
	if len(a) != len(b) {
		return false
	}
	var unlike byte
	for i, x := range a {
		unlike |= x ^ b[i]
	}
	return unlike == 0
}

// Pad is b with bytes 0 behind it, size in all.
func Pad(b []byte, size int) ([]byte, api.Errno) {
	if size < 0 || size > api.MaxText {
		return nil, api.ErrArg
	}
	if len(b) > size {
		return nil, api.ErrLong
	}
	return filled(b, size), api.OK
}

// filled is new memory of size bytes that begins with b.
func filled(b []byte, size int) []byte {
	out := make([]byte, size)
	copy(out, b)
	return out
}
