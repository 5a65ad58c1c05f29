package octet_test

import (
	"bytes"
	"math"
	"testing"

	"casemate/api"
	"casemate/octet"
)

func wantEnd(t *testing.T, r *octet.Reader, want api.Errno) {
	t.Helper()
	if e := r.End(); e != want {
		t.Errorf("End: %v, want %v", e, want)
	}
}

// silent fails if one of a reader's calls tells anything.
func silent(t *testing.T, r *octet.Reader) {
	t.Helper()
	if r.U8() != 0 || r.U16() != 0 || r.U32() != 0 || r.U64() != 0 || len(r.Bytes(0)) != 0 || len(r.Bytes(1)) != 0 || len(r.Bytes(-1)) != 0 || len(r.Rest()) != 0 {
		t.Error("the reader tells something")
	}
}

// P1.2, P1.3: all kinds of calls, in order, and what End tells on the way.
func TestReader(t *testing.T) {
	r := octet.Read([]byte{1, 2, 3, 4, 5, 6, 7, 8, 9, 10, 11, 12, 13, 14, 15, 16, 17, 18, 19, 20})
	wantEnd(t, r, api.ErrLong)
	if v := r.U8(); v != 1 {
		t.Errorf("U8: %x", v)
	}
	if v := r.U16(); v != 0x0203 {
		t.Errorf("U16: %x", v)
	}
	if v := r.U32(); v != 0x04050607 {
		t.Errorf("U32: %x", v)
	}
	if v := r.U64(); v != 0x08090a0b0c0d0e0f {
		t.Errorf("U64: %x", v)
	}
	wantBytes(t, "Bytes of 0", r.Bytes(0))
	wantBytes(t, "Bytes of 2", r.Bytes(2), 16, 17)
	wantEnd(t, r, api.ErrLong)
	wantBytes(t, "Rest", r.Rest(), 18, 19, 20)
	wantEnd(t, r, api.OK)
	wantBytes(t, "Rest of nothing", r.Rest())
	wantBytes(t, "Bytes of 0 at the end", r.Bytes(0))
	wantEnd(t, r, api.OK)
	if v := r.U8(); v != 0 {
		t.Errorf("U8 at the end: %x", v)
	}
	wantEnd(t, r, api.ErrShort)
}

// P1.2: each call takes the last bytes as well as the first.
func TestReaderJustEnough(t *testing.T) {
	for n, call := range map[int]func(r *octet.Reader) uint64{
		1: func(r *octet.Reader) uint64 { return uint64(r.U8()) },
		2: func(r *octet.Reader) uint64 { return uint64(r.U16()) },
		4: func(r *octet.Reader) uint64 { return uint64(r.U32()) },
		8: func(r *octet.Reader) uint64 { return r.U64() },
	} {
		b := make([]byte, n)
		b[n-1] = 9
		r := octet.Read(b)
		if v := call(r); v != 9 {
			t.Errorf("%d bytes: %d", n, v)
		}
		wantEnd(t, r, api.OK)
	}
	r := octet.Read([]byte{1, 2, 3})
	wantBytes(t, "Bytes of all", r.Bytes(3), 1, 2, 3)
	wantEnd(t, r, api.OK)
}

// P1.2: a call that finds too few bytes, or a count below 0, silences the reader, even where bytes are left.
func TestReaderTooFew(t *testing.T) {
	for name, c := range map[string]struct {
		size int
		call func(r *octet.Reader) bool
	}{
		"U8":           {0, func(r *octet.Reader) bool { return r.U8() == 0 }},
		"U16":          {1, func(r *octet.Reader) bool { return r.U16() == 0 }},
		"U32":          {3, func(r *octet.Reader) bool { return r.U32() == 0 }},
		"U64":          {7, func(r *octet.Reader) bool { return r.U64() == 0 }},
		"Bytes":        {5, func(r *octet.Reader) bool { return len(r.Bytes(6)) == 0 }},
		"Bytes, most":  {5, func(r *octet.Reader) bool { return len(r.Bytes(math.MaxInt)) == 0 }},
		"Bytes, -1":    {5, func(r *octet.Reader) bool { return len(r.Bytes(-1)) == 0 }},
		"Bytes, least": {5, func(r *octet.Reader) bool { return len(r.Bytes(math.MinInt)) == 0 }},
	} {
		b := behind(bytes.Repeat([]byte{7}, c.size), 8, 8, 8, 8, 8, 8, 8, 8)
		r := octet.Read(b)
		if !c.call(r) {
			t.Errorf("%s tells something", name)
		}
		wantEnd(t, r, api.ErrShort)
		silent(t, r)
		wantEnd(t, r, api.ErrShort)
	}
	// The byte that is left is told no more, by none of the calls.
	for _, call := range []func(r *octet.Reader) int{
		func(r *octet.Reader) int { return int(r.U8()) },
		func(r *octet.Reader) int { return len(r.Bytes(1)) },
		func(r *octet.Reader) int { return len(r.Rest()) },
	} {
		r := octet.Read([]byte{7})
		r.U16()
		if call(r) != 0 {
			t.Error("told behind a call that found too few")
		}
		wantEnd(t, r, api.ErrShort)
	}
}

// P1.2: a reader reads a copy, and hands out new memory.
func TestReaderCopies(t *testing.T) {
	b := behind([]byte{1, 2, 3, 4}, 5, 5)
	r := octet.Read(b)
	b[0], b[3] = 9, 9
	two := r.Bytes(2)
	wantBytes(t, "Bytes", two, 1, 2)
	two = append(two, 9, 9)
	two[0] = 9
	rest := r.Rest()
	wantBytes(t, "Rest", rest, 3, 4)
	rest[0] = 9
	wantBytes(t, "what was read", b, 9, 2, 3, 9)
	intact(t, b, 5, 5)
	wantEnd(t, r, api.OK)
}

// P1.3: of nothing, of nil, and of a reader that no call made.
func TestReaderOfNothing(t *testing.T) {
	for _, b := range [][]byte{nil, {}} {
		wantEnd(t, octet.Read(b), api.OK)
		wantBytes(t, "Rest of nothing", octet.Read(b).Rest())
		silent(t, octet.Read(b))
	}
	var none *octet.Reader
	silent(t, none)
	wantEnd(t, none, api.ErrNil)
	var bare octet.Reader
	silent(t, &bare)
	wantEnd(t, &bare, api.ErrShort)
}
