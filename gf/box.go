package gf

import "math/bits"

// mixed is the box of the byte whose inverse it is given.
func mixed(inverse byte) byte {
	out := inverse ^ 99
	for n := range 4 {
		out ^= bits.RotateLeft8(inverse, n+1)
	}
	return out
}

// Box is a byte's box.
func Box(a byte) byte {
	return mixed(Inverse(a))
}

// Unbox is the byte whose box it is.
func Unbox(a byte) byte {
	_, back := Boxes()
	return back[a]
}

// Boxes is the boxes of all bytes, and the other way round.
func Boxes() ([256]byte, [256]byte) {
	var boxes, back [256]byte
	all := inverses()
	for i := range 256 {
		box := mixed(all[i])
		boxes[i] = box
		back[box] = byte(i)
	}
	return boxes, back
}

// inverses is the inverses of all bytes. It goes through the generator's 255 powers, since a cipher asks for all boxes at once and Inverse of each would take it long: a power and the one as far ahead of the round's end are each other's inverses.
func inverses() [256]byte {
	var powers [255]byte
	power := byte(1)
	for i := range powers {
		powers[i] = power
		power = Mul(power, generator)
	}
	var out [256]byte
	for i, power := range powers {
		out[power] = powers[(len(powers)-i)%len(powers)]
	}
	return out
}
