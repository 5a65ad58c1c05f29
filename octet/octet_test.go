package octet_test

import (
	"bytes"
	"cmp"
	"math"
	"testing"

	"casemate/api"
	"casemate/octet"
)

// behind is a list with bytes in its memory past its end, which no call may look at.
func behind(b []byte, more ...byte) []byte {
	l := append(append([]byte{}, b...), more...)
	return l[:len(b)]
}

// intact fails if what lies behind a list's length is not what it was.
func intact(t *testing.T, l []byte, more ...byte) {
	t.Helper()
	if got := l[len(l) : len(l)+len(more)]; !bytes.Equal(got, more) {
		t.Errorf("behind the length stands %v, was %v", got, more)
	}
}

func wantBytes(t *testing.T, name string, got []byte, want ...byte) {
	t.Helper()
	if !bytes.Equal(got, want) {
		t.Errorf("%s: %v, want %v", name, got, want)
	}
}

// P1.1: a number's bytes are as many as its width, the greatest first.
func TestPut(t *testing.T) {
	wantBytes(t, "8, nought", octet.Put[uint8](0), 0)
	wantBytes(t, "8, most", octet.Put[uint8](255), 255)
	wantBytes(t, "16, nought", octet.Put[uint16](0), 0, 0)
	wantBytes(t, "16", octet.Put[uint16](258), 1, 2)
	wantBytes(t, "16, most", octet.Put[uint16](math.MaxUint16), 255, 255)
	wantBytes(t, "32, one", octet.Put[uint32](1), 0, 0, 0, 1)
	wantBytes(t, "32", octet.Put[uint32](0x01020304), 1, 2, 3, 4)
	wantBytes(t, "32, most", octet.Put[uint32](math.MaxUint32), 255, 255, 255, 255)
	wantBytes(t, "64, nought", octet.Put[uint64](0), 0, 0, 0, 0, 0, 0, 0, 0)
	wantBytes(t, "64", octet.Put[uint64](0xf102030405060708), 0xf1, 2, 3, 4, 5, 6, 7, 8)
	wantBytes(t, "64, most", octet.Put[uint64](math.MaxUint64), 255, 255, 255, 255, 255, 255, 255, 255)
}

func wantGet[T octet.Number](t *testing.T, b []byte, at int, want T, code api.Errno) {
	t.Helper()
	if v, e := octet.Get[T](b, at); v != want || e != code {
		t.Errorf("Get of %v at %d: %v %v, want %v %v", b, at, v, e, want, code)
	}
}

// P1.1: Get tells the number at any place that has all its bytes.
func TestGet(t *testing.T) {
	b := []byte{0xf1, 2, 3, 4, 5, 6, 7, 8, 0xf9}
	wantGet[uint8](t, b, 0, 0xf1, api.OK)
	wantGet[uint8](t, b, 8, 0xf9, api.OK)
	wantGet[uint16](t, b, 0, 0xf102, api.OK)
	wantGet[uint16](t, b, 7, 0x08f9, api.OK)
	wantGet[uint32](t, b, 0, 0xf1020304, api.OK)
	wantGet[uint32](t, b, 5, 0x060708f9, api.OK)
	wantGet[uint64](t, b, 0, 0xf102030405060708, api.OK)
	wantGet[uint64](t, b, 1, 0x02030405060708f9, api.OK)
}

// P1.1: a place below 0 is ErrArg, whatever the bytes; too few bytes are ErrShort; the number is 0 then.
func TestGetWrong(t *testing.T) {
	b := behind([]byte{1, 2, 3, 4, 5, 6, 7, 8, 9}, 10, 11, 12, 13, 14, 15, 16, 17)
	for _, at := range []int{-1, -8, math.MinInt} {
		wantGet[uint8](t, b, at, 0, api.ErrArg)
		wantGet[uint64](t, b, at, 0, api.ErrArg)
		wantGet[uint8](t, nil, at, 0, api.ErrArg)
	}
	wantGet[uint8](t, b, 9, 0, api.ErrShort)
	wantGet[uint16](t, b, 8, 0, api.ErrShort)
	wantGet[uint32](t, b, 6, 0, api.ErrShort)
	wantGet[uint64](t, b, 2, 0, api.ErrShort)
	wantGet[uint32](t, []byte{1, 2, 3}, 0, 0, api.ErrShort)
	for _, at := range []int{10, math.MaxInt - 1, math.MaxInt} {
		wantGet[uint8](t, b, at, 0, api.ErrShort)
		wantGet[uint16](t, b, at, 0, api.ErrShort)
		wantGet[uint64](t, b, at, 0, api.ErrShort)
	}
	wantGet[uint8](t, nil, 0, 0, api.ErrShort)
	wantGet[uint64](t, []byte{}, 0, 0, api.ErrShort)
}

// P1.1: Same asks all bytes, and nothing behind them.
func TestSame(t *testing.T) {
	for _, c := range []struct {
		a, b []byte
		want bool
	}{
		{nil, nil, true},
		{nil, []byte{}, true},
		{nil, []byte{0}, false},
		{[]byte{0}, nil, false},
		{[]byte{1, 2, 3}, []byte{1, 2, 3}, true},
		{[]byte{1, 2, 3}, []byte{1, 2}, false},
		{[]byte{1, 2}, []byte{1, 2, 3}, false},
		{[]byte{1, 2}, []byte{1, 2, 0}, false},
		{[]byte{1, 2, 3}, []byte{9, 2, 3}, false},
		{[]byte{1, 2, 3}, []byte{1, 9, 3}, false},
		{[]byte{1, 2, 3}, []byte{1, 2, 9}, false},
		{[]byte{1, 2, 3}, []byte{2, 1, 3}, false},
		{[]byte{1, 1}, []byte{3, 3}, false},
		{behind([]byte{1, 2}, 3), behind([]byte{1, 2}, 4), true},
		{behind([]byte{1, 2}, 3), []byte{1, 2, 3}, false},
	} {
		if got := octet.Same(c.a, c.b); got != c.want {
			t.Errorf("Same of %v and %v: %v", c.a, c.b, got)
		}
	}
	for i := range 8 {
		if octet.Same([]byte{5, 0}, []byte{5, 1 << i}) {
			t.Errorf("Same does not see the digit %d", i)
		}
	}
}

func wantPad(t *testing.T, b []byte, size int, code api.Errno, want ...byte) {
	t.Helper()
	if got, e := octet.Pad(b, size); e != code || !bytes.Equal(got, want) {
		t.Errorf("Pad of %v to %d: %v %v, want %v %v", b, size, got, e, want, code)
	}
}

// P1.1: Pad fills with bytes 0, in new memory, whatever stands behind the list.
func TestPad(t *testing.T) {
	wantPad(t, nil, 0, api.OK)
	wantPad(t, nil, 3, api.OK, 0, 0, 0)
	wantPad(t, []byte{}, 1, api.OK, 0)
	wantPad(t, []byte{7, 8}, 2, api.OK, 7, 8)
	wantPad(t, []byte{7, 8}, 3, api.OK, 7, 8, 0)
	b := behind([]byte{7, 8}, 9, 9)
	wantPad(t, b, 4, api.OK, 7, 8, 0, 0)
	intact(t, b, 9, 9)
	for _, size := range []int{2, 4} {
		out, _ := octet.Pad(b, size)
		out[0] = 1
		wantBytes(t, "what was padded", b, 7, 8)
	}
	most, e := octet.Pad([]byte{7}, api.MaxText)
	if e != api.OK || len(most) != api.MaxText || most[0] != 7 || bytes.Count(most, []byte{0}) != api.MaxText-1 {
		t.Errorf("Pad to MaxText: %d bytes, %v", len(most), e)
	}
}

// P1.1: a size that may not be is told ahead of too many bytes.
func TestPadWrong(t *testing.T) {
	wantPad(t, []byte{7, 8}, 1, api.ErrLong)
	wantPad(t, []byte{7}, 0, api.ErrLong)
	wantPad(t, make([]byte, api.MaxText+1), api.MaxText, api.ErrLong)
	for _, size := range []int{-1, math.MinInt, api.MaxText + 1, math.MaxInt} {
		wantPad(t, nil, size, api.ErrArg)
		wantPad(t, []byte{7, 8}, size, api.ErrArg)
		wantPad(t, make([]byte, api.MaxText+2), size, api.ErrArg)
	}
}

// P1.4: numbers of all widths that were put one behind the other are read as they were, by Get and by a reader.
func TestThereAndBack(t *testing.T) {
	var b []byte
	seed := uint64(1)
	var said []uint64
	for range 500 {
		seed = seed*6364136223846793005 + 1442695040888963407
		said = append(said, seed>>7)
		b = append(b, octet.Put(uint8(seed>>7))...)
		b = append(b, octet.Put(uint16(seed>>7))...)
		b = append(b, octet.Put(uint32(seed>>7))...)
		b = append(b, octet.Put(seed>>7)...)
	}
	if len(b) != 500*15 {
		t.Fatalf("%d bytes", len(b))
	}
	r := octet.Read(b)
	for i, v := range said {
		wantGet(t, b, 15*i, uint8(v), api.OK)
		wantGet(t, b, 15*i+1, uint16(v), api.OK)
		wantGet(t, b, 15*i+3, uint32(v), api.OK)
		wantGet(t, b, 15*i+7, v, api.OK)
		if r.U8() != uint8(v) || r.U16() != uint16(v) || r.U32() != uint32(v) || r.U64() != v {
			t.Fatalf("the reader's numbers at %d are others", i)
		}
	}
	if e := r.End(); e != api.OK {
		t.Errorf("End: %v", e)
	}
}

func wantOrder[T octet.Number](t *testing.T, l []T) {
	t.Helper()
	for _, a := range l {
		for _, b := range l {
			if bytes.Compare(octet.Put(a), octet.Put(b)) != cmp.Compare(a, b) {
				t.Errorf("the bytes of %d and %d stand otherwise than they do", a, b)
			}
		}
	}
}

// P1.5: as bytes, numbers of one width stand as they do as numbers.
func TestOrder(t *testing.T) {
	var l8 []uint8
	for i := range 256 {
		l8 = append(l8, uint8(i))
	}
	l16 := []uint16{0, math.MaxUint16}
	l32 := []uint32{0, math.MaxUint32}
	l64 := []uint64{0, math.MaxUint64}
	for i := range 64 {
		v := uint64(1) << i
		l16 = append(l16, uint16(v), uint16(v-1), uint16(v+1))
		l32 = append(l32, uint32(v), uint32(v-1), uint32(v+1))
		l64 = append(l64, v, v-1, v+1)
	}
	wantOrder(t, l8)
	wantOrder(t, l16)
	wantOrder(t, l32)
	wantOrder(t, l64)
}
