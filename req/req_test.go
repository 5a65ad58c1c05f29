package req_test

import (
	"bytes"
	"math"
	"math/rand/v2"
	"reflect"
	"slices"
	"testing"

	"casemate/api"
	"casemate/req"
)

// The document's numbers of the kinds.
func TestKinds(t *testing.T) {
	for i, kind := range kinds() {
		if kind != i+1 {
			t.Errorf("the kind number %d is %d", i+1, kind)
		}
	}
}

// P28.2: the document's examples.
func TestExamples(t *testing.T) {
	for _, c := range []struct {
		b []byte
		r req.Request
	}{
		{[]byte{82, 10, 0, 3}, req.Request{Kind: req.Commit, Session: 3}},
		{[]byte{82, 16, 2}, req.Request{Kind: req.Shred, Tenant: 2}},
		{[]byte{82, 15, 2, 0, 1, 0, 2}, req.Request{Kind: req.Limit, Tenant: 2, Reserve: 1, Quota: 2}},
	} {
		if b := wantRight(t, c.r); !bytes.Equal(b, c.b) {
			t.Errorf("the bytes of %v: % x", c.r, b)
		}
	}
	wantNone(t, []byte{82})
}

// P28.1, P28.2, P28.3: requests of each kind go there and back, with each number at its least and its greatest; one less, or one more, or far outside, it may not be.
func TestNumbers(t *testing.T) {
	far := []int{math.MinInt, math.MinInt + 1, -65536, -256, -1, 1 << 16, 1<<16 + 1, 1 << 17, 1 << 32, 1<<32 + 1, 1 << 48, math.MaxInt - 1, math.MaxInt}
	for _, kind := range kinds() {
		wantRight(t, plain(kind))
		for _, f := range fieldsOf(kind) {
			if !f.isNumber() {
				continue
			}
			r := plain(kind)
			for _, n := range []int{f.least, f.least + 1, f.most / 2, f.most - 1, f.most} {
				set(&r, f, n)
				wantRight(t, r)
			}
			for _, n := range append(far, f.least-1, f.most+1, f.most+2) {
				set(&r, f, n)
				wantWrong(t, r)
			}
		}
	}
}

// P28.3: requests of each kind, any of them.
func TestThereAndBack(t *testing.T) {
	chance := rand.New(rand.NewPCG(28, 3))
	for _, kind := range kinds() {
		for range 300 {
			wantRight(t, random(chance, kind))
		}
	}
}

// P28.1: a field that does not count for its kind, and is not 0.
func TestFieldsBeside(t *testing.T) {
	chance := rand.New(rand.NewPCG(28, 1))
	for _, kind := range kinds() {
		for _, f := range every() {
			if counts(kind, f) {
				continue
			}
			r := random(chance, kind)
			switch {
			case f.name == "Data":
				for _, length := range []int{1, 511, 512, 4096} {
					r.Data = make([]byte, length)
					wantWrong(t, r)
				}
				r.Data = []byte{}
				if !req.Right(r) {
					t.Fatalf("%v may not be, since its Data are empty", r)
				}
			case f.isNumber():
				for _, n := range []int{1, -1, 256, 65535, 65536, 1 << 32, math.MinInt, math.MaxInt} {
					set(&r, f, n)
					wantWrong(t, r)
				}
			default:
				for i := range 32 {
					key(&r, f)[i] = 1
					wantWrong(t, r)
					key(&r, f)[i] = 0
				}
				wantRight(t, r)
			}
		}
	}
}

// P28.1, P28.2: data of each length around those that may be.
func TestData(t *testing.T) {
	chance := rand.New(rand.NewPCG(28, 4))
	for _, length := range []int{0, 1, 511, 512, 513, 1023, 1024, 1025, 2048, 4095, 4096, 4097, 4607, 4608, 4609, 8192, 65536} {
		r := req.Request{Kind: req.Write, Session: 1, Volume: 2, Block: 3, Data: noise(chance, length)}
		if length%512 == 0 && length >= 512 && length <= 4096 {
			wantRight(t, r)
		} else {
			wantWrong(t, r)
			wantNone(t, byHand(r))
		}
		if got := req.Blocks(r); got != length/512 {
			t.Errorf("Blocks of %d bytes: %d", length, got)
		}
	}
	wantWrong(t, req.Request{Kind: req.Write, Session: 1, Volume: 2, Block: 3})
}

// P28.1, P28.2: kinds that there are not, with fields and without.
func TestNoKind(t *testing.T) {
	for _, kind := range []int{math.MinInt, -256, -17, -1, 0, 17, 18, 82, 255, 256, 257, 266, 1<<16 + 1, 1<<32 + 10, math.MaxInt} {
		for _, r := range []req.Request{{Kind: kind}, {Kind: kind, Session: 1}, {Kind: kind, Tenant: 1}, {Kind: kind, Count: 1}, {Kind: kind, Data: make([]byte, 512)}} {
			wantWrong(t, r)
			if got := req.Blocks(r); got != 0 {
				t.Errorf("Blocks of the kind %d: %d", kind, got)
			}
		}
	}
	for kind := range 256 {
		if kind >= 1 && kind <= 16 {
			continue
		}
		for _, length := range []int{0, 1, 2, 3, 8, 34, 512, 4096} {
			wantNone(t, append([]byte{82, byte(kind)}, make([]byte, length)...))
		}
	}
}

// P28.2: bytes that are empty, cut short at each place, with more behind, or with another first byte.
func TestCut(t *testing.T) {
	chance := rand.New(rand.NewPCG(28, 2))
	wantNone(t, nil)
	wantNone(t, []byte{})
	for _, kind := range kinds() {
		b := byHand(random(chance, kind))
		head := 7 // of a Write: what stands ahead of its data
		for length := range len(b) {
			if kind != req.Write || length <= head || (length-head)%512 > 0 {
				wantNone(t, b[:length])
			}
		}
		for _, behind := range []int{1, 2, 511, 513, 4097} {
			wantNone(t, append(slices.Clone(b), make([]byte, behind)...))
		}
		if kind != req.Write {
			wantNone(t, append(slices.Clone(b), make([]byte, 512)...))
			wantNone(t, append(slices.Clone(b), b...))
		}
		for x := range 256 {
			if x != 82 {
				wantNone(t, append([]byte{byte(x)}, b[1:]...))
			}
		}
		wantNone(t, append([]byte{82}, b...))
	}
}

// P28.2: a Read, a Discard or a Write of too few blocks, or too many, as bytes.
func TestBlocksAsBytes(t *testing.T) {
	for _, c := range []struct{ kind, most int }{{req.Read, 8}, {req.Discard, 256}} {
		for _, n := range []int{0, 1, 2, 7, 8, 9, 255, 256, 257, 511, 512, 65535} {
			r := req.Request{Kind: c.kind, Session: 1, Volume: 2, Block: 3, Count: n}
			if n >= 1 && n <= c.most {
				wantRight(t, r)
			} else {
				wantWrong(t, r)
				wantNone(t, byHand(r))
			}
		}
	}
}

// P28.2: how many blocks requests of each kind have to do with, also those that may not be.
func TestBlocks(t *testing.T) {
	for _, kind := range kinds() {
		for _, count := range []int{math.MinInt, -1, 0, 1, 8, 9, 256, 65536, math.MaxInt} {
			for _, length := range []int{0, 511, 512, 1023, 4096, 5120} {
				want := 0
				switch kind {
				case req.Read, req.Discard:
					want = count
				case req.Write:
					want = length / 512
				}
				if got := req.Blocks(req.Request{Kind: kind, Block: 7, Count: count, Data: make([]byte, length)}); got != want {
					t.Fatalf("Blocks of the kind %d with %d, %d: %d", kind, count, length, got)
				}
			}
		}
	}
}

// P28.1: requests are equal if all their fields are, whether they may be or not.
func TestSame(t *testing.T) {
	chance := rand.New(rand.NewPCG(28, 5))
	for kind := -1; kind <= 18; kind++ {
		r := random(chance, kind)
		r.Data = noise(chance, 4)
		for _, f := range every() {
			if f.isNumber() {
				set(&r, f, int(chance.Uint64()))
			}
		}
		if !req.Same(r, r) {
			t.Fatalf("%v is not the same as itself", r)
		}
		for _, f := range append(every(), field{name: "Kind", width: 1}) {
			x := r
			x.Data = slices.Clone(r.Data)
			if !req.Same(x, r) || !req.Same(r, x) {
				t.Fatalf("%v is not the same as its copy", r)
			}
			switch {
			case f.name == "Data":
				x.Data[3]++
				if req.Same(x, r) {
					t.Fatal("other Data are the same")
				}
				x.Data = x.Data[:3]
			case f.isNumber():
				for _, digit := range []int{0, 1, 7, 8, 15, 16, 31, 32, 62} {
					set(&x, f, number(r, f)^1<<digit)
					if req.Same(x, r) || req.Same(r, x) {
						t.Fatalf("another %s is the same", f.name)
					}
				}
			default:
				key(&x, f)[chance.IntN(32)] ^= 4
			}
			if req.Same(x, r) || req.Same(r, x) {
				t.Fatalf("another %s is the same", f.name)
			}
		}
	}
	if !req.Same(req.Request{Data: []byte{}}, req.Request{}) || !req.Same(req.Request{}, req.Request{}) {
		t.Error("no Data are not the same as no Data")
	}
	if req.Same(req.Request{Outer: api.Key{1}}, req.Request{Fresh: api.Key{1}}) || req.Same(req.Request{Tenant: 1}, req.Request{Session: 1}) || req.Same(req.Request{Data: make([]byte, 1)}, req.Request{}) {
		t.Error("unlike requests are the same")
	}
}

// P28.4: unlike requests have unlike bytes.
func TestUnlike(t *testing.T) {
	known := map[string]req.Request{}
	add := func(r req.Request) {
		t.Helper()
		b := string(wantRight(t, r))
		if other, there := known[b]; there && !req.Same(other, r) {
			t.Fatalf("%v and %v have the same bytes", r, other)
		}
		known[b] = r
	}
	chance := rand.New(rand.NewPCG(28, 6))
	for _, kind := range kinds() {
		add(plain(kind))
		for _, f := range fieldsOf(kind) {
			r := plain(kind)
			switch {
			case f.name == "Data":
				r.Data[511] = 1
				add(r)
				r.Data = make([]byte, 1024)
			case f.isNumber():
				set(&r, f, f.least+1)
				add(r)
				set(&r, f, f.most)
			default:
				key(&r, f)[31] = 1
			}
			add(r)
		}
		for range 50 {
			add(random(chance, kind))
		}
	}
}

// P28.3: any bytes are no request's, or just those that it has.
func TestNoise(t *testing.T) {
	chance := rand.New(rand.NewPCG(28, 7))
	found := 0
	for range 60000 {
		b := noise(chance, chance.IntN(12))
		if chance.IntN(20) == 0 {
			b = noise(chance, 7+512*chance.IntN(10))
		}
		if len(b) > 1 {
			b[0], b[1] = 82, byte(chance.IntN(18))
		}
		kept := bytes.Clone(b)
		if r, e := req.Decode(b); e == api.OK {
			found++
			if again := wantRight(t, r); !bytes.Equal(again, b) {
				t.Fatalf("Decode of % x: %v", b, r)
			}
		} else {
			wantNone(t, b)
		}
		if !bytes.Equal(b, kept) {
			t.Fatal("Decode changed its bytes")
		}
	}
	if found < 2000 {
		t.Errorf("only %d of these are requests", found)
	}
}

// P28.1, P28.2: nothing that is told or taken is shared with the caller, and what lies behind a length is left alone.
func TestApart(t *testing.T) {
	chance := rand.New(rand.NewPCG(28, 8))
	for _, kind := range kinds() {
		r := random(chance, kind)
		long := append(slices.Clone(r.Data), 1, 2, 3)
		given := r
		if r.Data != nil {
			given.Data = long[:len(r.Data)]
		}
		b, e := req.Encode(given)
		if e != api.OK || !slices.Equal(long[len(r.Data):], []byte{1, 2, 3}) || !bytes.Equal(given.Data, r.Data) {
			t.Fatalf("Encode changed what it was handed: %v", e)
		}
		clear(long)
		want := byHand(r)
		if !bytes.Equal(b, want) {
			t.Fatal("the bytes have changed with the request")
		}
		behind := append(slices.Clone(b), 7)
		back, e := req.Decode(behind[:len(b)])
		if e != api.OK || behind[len(b)] != 7 {
			t.Fatalf("Decode: %v", e)
		}
		clear(behind)
		if !reflect.DeepEqual(back, r) {
			t.Fatal("the request has changed with its bytes")
		}
		again, _ := req.Encode(back)
		clear(back.Data)
		clear(b)
		if !bytes.Equal(again, want) {
			t.Fatal("bytes have changed with another request")
		}
	}
}
