package reply_test

import (
	"bytes"
	"encoding/binary"
	"math"
	"math/rand/v2"
	"reflect"
	"testing"

	"casemate/api"
	"casemate/reply"
)

// errors is all errors that there are.
func errors() []api.Errno {
	return []api.Errno{api.OK, api.ErrArg, api.ErrLong, api.ErrForm, api.ErrNone, api.ErrFull, api.ErrNil, api.ErrState, api.ErrShort, api.ErrMac, api.ErrDown, api.ErrSector, api.ErrIntegrity, api.ErrKey, api.ErrTenant, api.ErrVolume, api.ErrThere, api.ErrQuota, api.ErrPool, api.ErrBlock, api.ErrRequest, api.ErrBusy, api.ErrLine}
}

// far is numbers that no field of a reply or a status may have.
func far() []int {
	return []int{math.MinInt, math.MinInt + 1, -1 << 32, -1<<32 + 1, math.MinInt32, -65537, -65536, -65535, -256, -2, -1, 1 << 31, 1<<31 + 1, 1<<32 - 1, 1 << 32, 1<<32 + 1, 1<<48 + 7, math.MaxInt - 1, math.MaxInt}
}

// short is numbers of two bytes.
func short() []int {
	return []int{0, 1, 2, 51, 127, 128, 255, 256, 257, 4095, 32767, 32768, 65534, 65535}
}

// noise is so many bytes.
func noise(chance *rand.Rand, count int) []byte {
	b := make([]byte, count)
	for i := range b {
		b[i] = byte(chance.Uint32())
	}
	return b
}

// behind is b, with other bytes behind its length.
func behind(b []byte, other ...byte) []byte {
	return append(bytes.Clone(b), other...)[:len(b)]
}

// byHand is a reply's bytes, put together in another way.
func byHand(r reply.Reply) []byte {
	b := make([]byte, 6, 6+len(r.Data))
	binary.BigEndian.PutUint16(b, uint16(r.E))
	binary.BigEndian.PutUint32(b[2:], uint32(r.Number))
	return append(b, r.Data...)
}

// wantReply fails if a reply does not go there and back.
func wantReply(t *testing.T, r reply.Reply) []byte {
	t.Helper()
	b, e := reply.Encode(r)
	if e != api.OK || !bytes.Equal(b, byHand(r)) {
		t.Fatalf("Encode of %d, %d and %d bytes: % x, %v", r.E, r.Number, len(r.Data), b, e)
	}
	back, e := reply.Decode(b)
	if e != api.OK || back.E != r.E || back.Number != r.Number || !bytes.Equal(back.Data, r.Data) {
		t.Fatalf("Decode of % x: %v, %v", b, back, e)
	}
	if !reply.Same(back, r) || !reply.Same(r, back) {
		t.Fatalf("%v is not the same as what was read", r)
	}
	return b
}

// wantWrong fails if a reply is one that may be.
func wantWrong(t *testing.T, r reply.Reply) {
	t.Helper()
	if b, e := reply.Encode(r); len(b) > 0 || e != api.ErrForm {
		t.Fatalf("Encode of %d, %d and %d bytes: %d bytes, %v", r.E, r.Number, len(r.Data), len(b), e)
	}
}

// wantNone fails if bytes are a reply's.
func wantNone(t *testing.T, b []byte) {
	t.Helper()
	if r, e := reply.Decode(b); e != api.ErrForm || r.E != 0 || r.Number != 0 || len(r.Data) > 0 {
		t.Fatalf("Decode of %d bytes: %v, %v", len(b), r, e)
	}
}

// numbersOf is a status' numbers, in the order of its bytes.
func numbersOf(s *reply.Status) []*int {
	l := []*int{&s.Charge, &s.Reserve, &s.Quota}
	for i := range 8 {
		l = append(l, &s.Blocks[i], &s.Used[i])
	}
	return l
}

// wantStatus fails if a status does not go there and back.
func wantStatus(t *testing.T, s reply.Status) []byte {
	t.Helper()
	var want []byte
	for _, n := range numbersOf(&s) {
		want = binary.BigEndian.AppendUint16(want, uint16(*n))
	}
	b, e := reply.WriteStatus(s)
	if e != api.OK || !bytes.Equal(b, want) {
		t.Fatalf("WriteStatus of %v: % x, %v, want % x", s, b, e, want)
	}
	if back, e := reply.ReadStatus(b); e != api.OK || back != s {
		t.Fatalf("ReadStatus of % x: %v, %v, want %v", b, back, e, s)
	}
	return b
}

// wantNoStatus fails if a status is one that may be.
func wantNoStatus(t *testing.T, s reply.Status) {
	t.Helper()
	if b, e := reply.WriteStatus(s); len(b) > 0 || e != api.ErrForm {
		t.Fatalf("WriteStatus of %v: %d bytes, %v", s, len(b), e)
	}
}

// wantUnread fails if bytes are a status'.
func wantUnread(t *testing.T, b []byte) {
	t.Helper()
	if s, e := reply.ReadStatus(b); e != api.ErrForm || !reflect.DeepEqual(s, reply.Status{}) {
		t.Fatalf("ReadStatus of %d bytes: %v, %v", len(b), s, e)
	}
}
