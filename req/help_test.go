package req_test

import (
	"bytes"
	"math/rand/v2"
	"reflect"
	"testing"

	"casemate/api"
	"casemate/req"
)

// field is a field of a request, by its name: a number of so many bytes, from least to most, or a key, which has none.
type field struct {
	name               string
	width, least, most int
}

// The fields of requests.
var (
	session  = field{"Session", 2, 0, 65535}
	who      = field{"Tenant", 1, 0, 255}
	volume   = field{"Volume", 1, 0, 255}
	to       = field{"To", 1, 0, 255}
	block    = field{"Block", 2, 0, 65535}
	size     = field{"Count", 2, 0, 65535}
	reserve  = field{"Reserve", 2, 0, 65535}
	quota    = field{"Quota", 2, 0, 65535}
	reads    = field{"Count", 2, 1, 8}
	discards = field{"Count", 2, 1, 256}
	outer    = field{name: "Outer"}
	anew     = field{name: "Fresh"}
	master   = field{name: "Master"}
	salt     = field{name: "Salt"}
	data     = field{name: "Data"}
)

// isNumber tells whether a field is a number.
func (f field) isNumber() bool {
	return f.width > 0
}

// every is all fields, each once.
func every() []field {
	return []field{session, who, volume, to, block, size, reserve, quota, outer, anew, master, salt, data}
}

// fieldsOf is the fields of a kind, in the order of its bytes, as the document has them.
func fieldsOf(kind int) []field {
	return map[int][]field{
		1:  {who, outer},
		2:  {session},
		3:  {session, volume, block, reads},
		4:  {session, volume, block, data},
		5:  {session, volume, block, discards},
		6:  {session, volume, size},
		7:  {session, volume},
		8:  {session, volume, size},
		9:  {session, volume, to},
		10: {session},
		11: {session},
		12: {session, outer, anew, salt},
		13: {session},
		14: {who, outer, master, salt, reserve, quota},
		15: {who, reserve, quota},
		16: {who},
	}[kind]
}

// kinds is all kinds that there are.
func kinds() []int {
	return []int{req.Open, req.Close, req.Read, req.Write, req.Discard, req.Create, req.Remove, req.Resize, req.Snapshot, req.Commit, req.Abort, req.Rotate, req.Status, req.Add, req.Limit, req.Shred}
}

// counts tells whether a field counts for a kind.
func counts(kind int, f field) bool {
	for _, g := range fieldsOf(kind) {
		if g.name == f.name {
			return true
		}
	}
	return false
}

// set sets a number of a request.
func set(r *req.Request, f field, n int) {
	reflect.ValueOf(r).Elem().FieldByName(f.name).SetInt(int64(n))
}

// number is a number of a request.
func number(r req.Request, f field) int {
	return int(reflect.ValueOf(r).FieldByName(f.name).Int())
}

// key is a key or a salt of a request.
func key(r *req.Request, f field) []byte {
	return reflect.ValueOf(r).Elem().FieldByName(f.name).Slice(0, 32).Bytes()
}

// noise is so many bytes.
func noise(chance *rand.Rand, length int) []byte {
	b := make([]byte, length)
	for i := range b {
		b[i] = byte(chance.Uint32())
	}
	return b
}

// byHand is a request's bytes, put together in another way.
func byHand(r req.Request) []byte {
	b := []byte{82, byte(r.Kind)}
	for _, f := range fieldsOf(r.Kind) {
		switch {
		case f.name == "Data":
			b = append(b, r.Data...)
		case f.width == 0:
			b = append(b, key(&r, f)...)
		case f.width == 2:
			n := number(r, f)
			b = append(b, byte(n/256), byte(n%256))
		default:
			b = append(b, byte(number(r, f)))
		}
	}
	return b
}

// random is a request of a kind that may be.
func random(chance *rand.Rand, kind int) req.Request {
	r := req.Request{Kind: kind}
	for _, f := range fieldsOf(kind) {
		switch {
		case f.name == "Data":
			r.Data = noise(chance, 512*(1+chance.IntN(8)))
		case f.width == 0:
			copy(key(&r, f), noise(chance, 32))
		default:
			n := f.least + chance.IntN(f.most-f.least+1)
			if chance.IntN(4) == 0 {
				n = f.least
			}
			set(&r, f, n)
		}
	}
	return r
}

// plain is a request of a kind whose numbers are the least that may be; keys and salts are noughts.
func plain(kind int) req.Request {
	r := req.Request{Kind: kind}
	for _, f := range fieldsOf(kind) {
		switch {
		case f.name == "Data":
			r.Data = make([]byte, 512)
		case f.isNumber():
			set(&r, f, f.least)
		}
	}
	return r
}

// wantRight fails if a request is not one that may be, or does not go there and back.
func wantRight(t *testing.T, r req.Request) []byte {
	t.Helper()
	if !req.Right(r) {
		t.Fatalf("%v may not be", r)
	}
	b, e := req.Encode(r)
	if e != api.OK || !bytes.Equal(b, byHand(r)) {
		t.Fatalf("Encode of %v: % x, %v", r, b, e)
	}
	back, e := req.Decode(b)
	if e != api.OK || !reflect.DeepEqual(back, r) {
		t.Fatalf("Decode of % x: %v, %v, want %v", b, back, e, r)
	}
	if !req.Same(back, r) {
		t.Fatalf("%v is not the same as what was read", r)
	}
	return b
}

// wantWrong fails if a request is one that may be.
func wantWrong(t *testing.T, r req.Request) {
	t.Helper()
	if req.Right(r) {
		t.Fatalf("%v may be", r)
	}
	if b, e := req.Encode(r); len(b) > 0 || e != api.ErrForm {
		t.Fatalf("Encode of %v: %d bytes, %v", r, len(b), e)
	}
}

// wantNone fails if bytes are a request's.
func wantNone(t *testing.T, b []byte) {
	t.Helper()
	if r, e := req.Decode(b); e != api.ErrRequest || !reflect.DeepEqual(r, req.Request{}) {
		t.Fatalf("Decode of % x: %v, %v", b, r, e)
	}
}
