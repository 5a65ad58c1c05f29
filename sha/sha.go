// Package sha makes sums of texts (SHA-256). It is layer 2: see shared/doc/02-sha.md.
package sha

import (
	"casemate/api"
	"casemate/octet"
)

// Hash sums a text that comes piece by piece.
type Hash struct {
	made  bool       // by New: a hash that no call made has no numbers to begin with
	h     [8]uint32  // behind the blocks that were taken
	block [size]byte // its first have bytes are text that was not taken yet
	have  int
	count uint64 // how many bytes the text has
}

// New is a hash of the empty text.
func New() *Hash {
	return &Hash{made: true, h: squareRoots}
}

// Write puts bytes behind the text.
func (x *Hash) Write(b []byte) api.Errno {
	if x == nil || !x.made {
		return api.ErrNil
	}
	x.add(b)
	return api.OK
}

// Sum is the sum so far.
func (x *Hash) Sum() (api.Sum, api.Errno) {
	if x == nil || !x.made {
		return api.Sum{}, api.ErrNil
	}
	return x.end(), api.OK
}

// Both is the sum of texts, one behind the other.
func Both(l ...[]byte) api.Sum {
	x := New()
	for _, b := range l {
		x.add(b)
	}
	return x.end()
}

// Sum is a text's sum.
func Sum(b []byte) api.Sum {
	return Both(b)
}

// add takes each block that the bytes fill, and keeps what is behind it.
func (x *Hash) add(b []byte) {
	x.count += uint64(len(b))
	for len(b) > 0 {
		n := copy(x.block[x.have:], b)
		b = b[n:]
		x.have += n
		if x.have == size {
			x.h = take(x.h, x.block)
			x.have = 0
		}
	}
}

// end fills the text and sums it. It works on a copy of the hash, which may be written on.
func (x Hash) end() api.Sum {
	digits := octet.Put(8 * x.count)
	var fill [size]byte
	fill[0] = 128
	x.add(fill[:1+(55-x.count)%size]) // 55 and the byte 128 make 56, modulo 64
	x.add(digits)
	var sum api.Sum
	for i, v := range x.h {
		copy(sum[4*i:], octet.Put(v))
	}
	return sum
}
