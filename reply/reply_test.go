package reply_test

import (
	"bytes"
	"math"
	"math/rand/v2"
	"testing"

	"casemate/api"
	"casemate/reply"
)

// numbers is numbers that a reply may have.
func numbers() []int {
	return []int{0, 1, 3, 255, 256, 65535, 65536, 1 << 24, 0x01020304, math.MaxInt32 - 1, math.MaxInt32}
}

// P29.1: the document's example, and the bytes of some others.
func TestExamples(t *testing.T) {
	for _, c := range []struct {
		r reply.Reply
		b []byte
	}{
		{reply.Fail(api.ErrTenant), []byte{0, 51, 0, 0, 0, 0}},
		{reply.Reply{}, []byte{0, 0, 0, 0, 0, 0}},
		{reply.Reply{E: 0x0102, Number: 0x03040506, Data: []byte{7, 8}}, []byte{1, 2, 3, 4, 5, 6, 7, 8}},
		{reply.Reply{E: 65535, Number: math.MaxInt32}, []byte{255, 255, 127, 255, 255, 255}},
	} {
		if b := wantReply(t, c.r); !bytes.Equal(b, c.b) {
			t.Errorf("the bytes of %v: % x", c.r, b)
		}
	}
}

// P29.1: an error's reply has nothing else, whatever the error.
func TestFail(t *testing.T) {
	for _, e := range append(errors(), -1, 65535, 65536, math.MinInt, math.MaxInt) {
		r := reply.Fail(e)
		if r.E != e || r.Number != 0 || len(r.Data) > 0 {
			t.Errorf("Fail of %d: %v", int(e), r)
		}
		if e < 0 || e > 65535 {
			wantWrong(t, r)
		} else {
			wantReply(t, r)
		}
	}
}

// P29.1, P29.3: replies with each of these errors and numbers, and with data of each length there may be; they have all unlike bytes.
func TestThereAndBack(t *testing.T) {
	chance := rand.New(rand.NewPCG(29, 3))
	known := map[string]bool{}
	for _, e := range short() {
		for _, n := range numbers() {
			for _, length := range []int{0, 1, 511, 512, 513, 4095, 4096} {
				known[string(wantReply(t, reply.Reply{E: api.Errno(e), Number: n, Data: make([]byte, length)}))] = true
			}
		}
	}
	if want := len(short()) * len(numbers()) * 7; len(known) != want {
		t.Errorf("%d replies have %d unlike bytes", want, len(known))
	}
	for length := range 4097 {
		wantReply(t, reply.Reply{E: api.Errno(chance.IntN(65536)), Number: int(chance.Int32()), Data: noise(chance, length)})
	}
}

// P29.1: an error, a number or data that no reply may have, alone and beside others.
func TestWrong(t *testing.T) {
	long := make([]byte, 65536)
	for _, n := range append(far(), 65536, 65537, 1<<17, 1<<24) {
		for _, data := range [][]byte{nil, {}, {1}, long[:512], long[:4096], long[:4097]} {
			wantWrong(t, reply.Reply{E: api.Errno(n), Data: data})
			wantWrong(t, reply.Reply{E: api.Errno(n), Number: math.MaxInt32, Data: data})
		}
	}
	for _, n := range far() {
		for _, e := range []api.Errno{0, 1, 65535, -1, 65536, api.Errno(n)} {
			wantWrong(t, reply.Reply{E: e, Number: n})
			wantWrong(t, reply.Reply{E: e, Number: n, Data: long[:4096]})
		}
	}
	for _, length := range []int{4097, 4098, 4607, 4608, 8192, 65535, 65536} {
		wantWrong(t, reply.Reply{Data: long[:length]})
		wantWrong(t, reply.Reply{E: 65535, Number: math.MaxInt32, Data: long[:length]})
	}
}

// P29.1: bytes of each length around those that a reply may have.
func TestDecodeLengths(t *testing.T) {
	wantNone(t, nil)
	long := bytes.Repeat([]byte{1}, 65536)
	for length := range 6 {
		wantNone(t, long[:length])
		wantNone(t, make([]byte, length))
	}
	for _, length := range []int{6, 7, 8, 518, 519, 4101, 4102} {
		r, e := reply.Decode(long[:length])
		if e != api.OK || r.E != 0x0101 || r.Number != 0x01010101 || !bytes.Equal(r.Data, long[:length-6]) {
			t.Fatalf("Decode of %d bytes: %v, %v", length, r, e)
		}
	}
	for _, length := range []int{4103, 4104, 4614, 8192, 65536} {
		wantNone(t, long[:length])
	}
}

// P29.1: a number whose first digit is 1 is above 2^31 - 1.
func TestDecodeNumbers(t *testing.T) {
	for first := range 256 {
		for _, rest := range [][3]byte{{}, {0, 0, 1}, {255, 255, 255}} {
			b := []byte{0, 1, byte(first), rest[0], rest[1], rest[2], 9}
			if first >= 128 {
				wantNone(t, b)
				continue
			}
			want := first<<24 | int(rest[0])<<16 | int(rest[1])<<8 | int(rest[2])
			if r, e := reply.Decode(b); e != api.OK || r.Number != want {
				t.Fatalf("Decode of % x: %v, %v", b, r, e)
			}
		}
	}
}

// P29.1, P29.3: any bytes are no reply's, or just those that it is written as.
func TestDecodeNoise(t *testing.T) {
	chance := rand.New(rand.NewPCG(29, 1))
	replies, none := 0, 0
	for range 20000 {
		b := noise(chance, chance.IntN(20))
		kept := bytes.Clone(b)
		r, e := reply.Decode(b)
		if !bytes.Equal(b, kept) {
			t.Fatal("Decode changed its bytes")
		}
		if e != api.OK {
			none++
			wantNone(t, b)
			continue
		}
		replies++
		if !bytes.Equal(wantReply(t, r), b) {
			t.Fatalf("Decode of % x: %v", b, r)
		}
	}
	if replies < 1000 || none < 1000 {
		t.Errorf("%d replies, %d that are none", replies, none)
	}
}

// P29.3: bytes with one digit turned are another reply's, or none's.
func TestDecodeTurned(t *testing.T) {
	r := reply.Reply{E: 258, Number: 0x01020304, Data: []byte{5, 6, 7, 8}}
	b := wantReply(t, r)
	for at := range b {
		for digit := range 8 {
			b[at] ^= 1 << digit
			if at == 2 && digit == 7 {
				wantNone(t, b)
			} else if got, e := reply.Decode(b); e != api.OK || reply.Same(got, r) || !bytes.Equal(wantReply(t, got), b) {
				t.Fatalf("Decode of % x: %v, %v", b, got, e)
			}
			b[at] ^= 1 << digit
		}
	}
}

// P29.1: replies that are unlike in one thing are not the same, those that may not be included.
func TestSame(t *testing.T) {
	var l []reply.Reply
	for _, n := range append(far(), 0, 1, 65535, 65536) {
		l = append(l, reply.Reply{E: api.Errno(n), Number: 3, Data: []byte{1, 2}}, reply.Reply{E: 3, Number: n, Data: []byte{1, 2}})
	}
	for _, data := range [][]byte{{}, {0}, {1}, {0, 0}, {1, 3}, {2, 1}, {1, 2, 0}, make([]byte, 4096), make([]byte, 4097), make([]byte, 8192)} {
		l = append(l, reply.Reply{Data: data}, reply.Reply{E: 1, Data: data}, reply.Reply{Number: 1, Data: data})
	}
	for at := range 512 {
		data := make([]byte, 512)
		data[at] = 1
		l = append(l, reply.Reply{Data: data})
	}
	for i, a := range l {
		for j, b := range l {
			b.Data = bytes.Clone(b.Data)
			if got := reply.Same(a, b); got != (i == j) {
				t.Fatalf("Same of %v and %v: %v", a, b, got)
			}
		}
	}
}

// P29.1: no data are the same as empty ones, and what lies behind a list counts nothing.
func TestSameData(t *testing.T) {
	if !reply.Same(reply.Reply{E: 1}, reply.Reply{E: 1, Data: []byte{}}) || !reply.Same(reply.Reply{}, reply.Reply{Data: behind(nil, 1, 2)}) {
		t.Error("no data, and empty ones")
	}
	if !reply.Same(reply.Reply{Data: behind([]byte{1}, 2)}, reply.Reply{Data: behind([]byte{1}, 3)}) {
		t.Error("unlike bytes behind the data")
	}
	if !reply.Same(reply.Reply{}, reply.Reply{}) {
		t.Error("replies of nothing")
	}
}

// P29.1: what is told or taken is not shared with the caller, and stays as it was.
func TestApart(t *testing.T) {
	data := behind([]byte{1, 2, 3}, 9, 9, 9, 9)
	r := reply.Reply{E: 5, Number: 6, Data: data}
	one, _ := reply.Encode(r)
	two, _ := reply.Encode(r)
	clear(one)
	_ = append(one, 7, 7, 7)
	if !bytes.Equal(data[:7], []byte{1, 2, 3, 9, 9, 9, 9}) || !bytes.Equal(two, byHand(r)) {
		t.Error("Encode shares what it tells")
	}
	clear(data)
	if !bytes.Equal(two, []byte{0, 5, 0, 0, 0, 6, 1, 2, 3}) {
		t.Error("Encode shares what it takes")
	}
	b := behind(two, 8, 8, 8)
	three, _ := reply.Decode(b)
	four, _ := reply.Decode(b)
	clear(three.Data)
	_ = append(three.Data, 7, 7, 7)
	if !bytes.Equal(b[:12], []byte{0, 5, 0, 0, 0, 6, 1, 2, 3, 8, 8, 8}) || !bytes.Equal(four.Data, []byte{1, 2, 3}) {
		t.Error("Decode shares what it tells")
	}
	clear(b)
	if !bytes.Equal(four.Data, []byte{1, 2, 3}) {
		t.Error("Decode shares what it takes")
	}
	reply.Same(four, reply.Reply{Data: b})
	if !bytes.Equal(four.Data, []byte{1, 2, 3}) {
		t.Error("Same changes what it is handed")
	}
}
