package aes

import "casemate/gf"

const (
	rounds = 14
	left   = 1 // by so many columns the row 1 is moved, and by as many more each further row
	right  = 3 // three columns to the left are one to the right
)

// joined is a block xor'ed with a key.
func joined(b, key [16]byte) [16]byte {
	for i, x := range key {
		b[i] ^= x
	}
	return b
}

// replaced is a block of what a table has for each byte.
func replaced(b [16]byte, table *[256]byte) [16]byte {
	for i, x := range b {
		b[i] = table[x]
	}
	return b
}

// moved is a block whose rows are turned to the left, by so many columns times the row's number.
func moved(b [16]byte, by int) [16]byte {
	var out [16]byte
	for i := range out {
		row := i % 4
		out[i] = b[(i+4*by*row)%16]
	}
	return out
}

// columns is what multiplies the columns of a block: each byte becomes the first factor times it, and the others times the next ones, around.
func columns(factors ...byte) func(b [16]byte) [16]byte {
	return func(b [16]byte) [16]byte {
		var out [16]byte
		for i := range out {
			top := i - i%4
			for k, factor := range factors {
				// The factor comes last, since a product takes as long as its second byte has digits.
				out[i] ^= gf.Mul(b[top+(i+k)%4], factor)
			}
		}
		return out
	}
}
