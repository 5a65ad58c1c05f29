package gf_test

import (
	"encoding/hex"
	"testing"

	"casemate/gf"
)

// published is the boxes of all bytes as they were published, whatever this program or its tests think.
const published = "637c777bf26b6fc53001672bfed7ab76" + "ca82c97dfa5947f0add4a2af9ca472c0" +
	"b7fd9326363ff7cc34a5e5f171d83115" + "04c723c31896059a071280e2eb27b275" +
	"09832c1a1b6e5aa0523bd6b329e32f84" + "53d100ed20fcb15b6acbbe394a4c58cf" +
	"d0efaafb434d338545f9027f503c9fa8" + "51a3408f929d38f5bcb6da2110fff3d2" +
	"cd0c13ec5f974417c4a77e3d645d1973" + "60814fdc222a908846eeb814de5e0bdb" +
	"e0323a0a4906245cc2d3ac629195e479" + "e7c8376d8dd54ea96c56f4ea657aae08" +
	"ba78252e1ca6b4c6e8dd741f4bbd8b8a" + "703eb5664803f60e613557b986c11d9e" +
	"e1f8981169d98e949b1e87e9ce5528df" + "8ca1890dbfe6426841992d0fb054bb16"

// want is the published boxes, by their bytes.
func want(t *testing.T) [256]byte {
	b, err := hex.DecodeString(published)
	if err != nil || len(b) != 256 {
		t.Fatalf("%d boxes, %v", len(b), err)
	}
	return [256]byte(b)
}

// P4.2: the box of each byte, and back, one by one.
func TestBox(t *testing.T) {
	if gf.Box(0) != 99 || gf.Box(83) != 237 || gf.Unbox(99) != 0 || gf.Unbox(237) != 83 {
		t.Error("the document's own boxes are others")
	}
	for a, box := range want(t) {
		if got := gf.Box(byte(a)); got != box {
			t.Errorf("Box of %d: %d, want %d", a, got, box)
		}
		if got := gf.Unbox(box); got != byte(a) {
			t.Errorf("Unbox of %d: %d, want %d", box, got, a)
		}
	}
}

// P4.2: a box by the document's words, digit by digit: each is xor'ed of five of the inverse's and of one of 99's.
func TestBoxByDigits(t *testing.T) {
	for a := range 256 {
		inverse := gf.Inverse(byte(a))
		var box byte
		for i := range 8 {
			digit := byte(99) >> i & 1
			for n := range 5 {
				digit ^= inverse >> ((i - n + 8) % 8) & 1
			}
			box |= digit << i
		}
		if got := gf.Box(byte(a)); got != box {
			t.Errorf("Box of %d: %d, want %d", a, got, box)
		}
	}
}

// P4.2: all boxes at once, both ways; and what was handed out is nobody else's.
func TestBoxes(t *testing.T) {
	boxes, back := gf.Boxes()
	if boxes != want(t) {
		t.Errorf("boxes: %v", boxes)
	}
	for a, box := range boxes {
		if back[box] != byte(a) {
			t.Errorf("the byte whose box is %d: %d, want %d", box, back[box], a)
		}
	}
	clear(boxes[:])
	clear(back[:])
	if again, more := gf.Boxes(); again != want(t) || more[99] != 0 || more[237] != 83 {
		t.Error("what was handed out hangs on what was done to it")
	}
	if gf.Box(83) != 237 || gf.Unbox(237) != 83 {
		t.Error("a box hangs on what was done to what was handed out")
	}
}

// P4.5: each byte is the box of just one, and none is its own.
func TestBoxOfOne(t *testing.T) {
	boxes, back := gf.Boxes()
	var times [256]int
	for a := range 256 {
		box := gf.Box(byte(a))
		times[box]++
		if box == byte(a) || boxes[a] == byte(a) || back[a] == byte(a) || gf.Unbox(byte(a)) == byte(a) {
			t.Errorf("%d is its own box", a)
		}
		if gf.Unbox(box) != byte(a) || gf.Box(gf.Unbox(byte(a))) != byte(a) {
			t.Errorf("%d does not go there and back", a)
		}
	}
	for b, n := range times {
		if n != 1 {
			t.Errorf("%d is the box of %d bytes", b, n)
		}
	}
}
