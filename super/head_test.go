package super_test

import (
	"bytes"
	"encoding/binary"
	"math"
	"math/rand/v2"
	"testing"

	"casemate/api"
	"casemate/super"
)

// Where the parts of a head's bytes stand.
const (
	atGen   = 8
	atEpoch = 16
	atHas   = 24
	atRoot  = 32
	atEnd   = 68
)

// root is a reference none of whose bytes is 0.
func root() api.Ref {
	r := api.Ref{Sector: 0x01020304}
	for i := range r.Sum {
		r.Sum[i] = byte(100 + i)
	}
	return r
}

// heads are heads that may be, with a root and without one, of each of these numbers.
func heads() []super.Head {
	var l []super.Head
	numbers := []uint64{0, 1, 2, 255, 256, 0x0102030405060708, 1 << 63, math.MaxUint64 - 1, math.MaxUint64}
	roots := []api.Ref{root(), {}, {Sector: 1}, {Sector: math.MaxUint32}, {Sum: api.Sum{1}}, {Sum: api.Sum{31: 1}}}
	for _, gen := range numbers {
		for _, epoch := range numbers {
			l = append(l, super.Head{Gen: gen, Epoch: epoch})
			for _, r := range roots {
				l = append(l, super.Head{Gen: gen, Epoch: epoch, Has: true, Root: r})
			}
		}
	}
	return l
}

// noise is so many bytes.
func noise(chance *rand.Rand, count int) []byte {
	b := make([]byte, count)
	for i := range b {
		b[i] = byte(chance.Uint32())
	}
	return b
}

// random is a head that may be.
func random(chance *rand.Rand) super.Head {
	h := super.Head{Gen: chance.Uint64() >> chance.IntN(64), Epoch: chance.Uint64() >> chance.IntN(64), Has: chance.IntN(2) == 0}
	if h.Has {
		h.Root = api.Ref{Sector: chance.Uint32(), Sum: api.Sum(noise(chance, 32))}
	}
	return h
}

// byHand is a head's bytes, put together in another way.
func byHand(h super.Head) []byte {
	b := make([]byte, 512)
	copy(b, "CMH1")
	binary.BigEndian.PutUint64(b[atGen:], h.Gen)
	binary.BigEndian.PutUint64(b[atEpoch:], h.Epoch)
	if h.Has {
		b[atHas+7] = 1
	}
	binary.BigEndian.PutUint32(b[atRoot:], h.Root.Sector)
	copy(b[atRoot+4:], h.Root.Sum[:])
	return b
}

func written(t *testing.T, h super.Head) []byte {
	t.Helper()
	b, e := super.Write(h)
	if e != api.OK || len(b) != api.Sector || cap(b) != api.Sector {
		t.Fatalf("Write of %v: %d bytes, %v", h, len(b), e)
	}
	return b
}

func wantHead(t *testing.T, what string, b []byte, want super.Head) {
	t.Helper()
	if h, e := super.Read(b); e != api.OK || h != want {
		t.Fatalf("Read of %s: %v, %v, want %v", what, h, e, want)
	}
}

// wantNone fails if bytes are taken for a head's.
func wantNone(t *testing.T, what string, b []byte) {
	t.Helper()
	if h, e := super.Read(b); e != api.ErrForm || h != (super.Head{}) {
		t.Fatalf("Read of %s: %v, %v", what, h, e)
	}
}

// P19.1: heads' bytes, put together by hand, and back.
func TestHead(t *testing.T) {
	for _, h := range heads() {
		b := written(t, h)
		if !bytes.Equal(b, byHand(h)) {
			t.Fatalf("Write of %v:\n% x, want\n% x", h, b, byHand(h))
		}
		wantHead(t, "a head's bytes", b, h)
	}
}

// P19.1: the document's example, and all other bytes of the zero head.
func TestHeadExample(t *testing.T) {
	b := written(t, super.Head{})
	if !bytes.Equal(b[:8], []byte{67, 77, 72, 49, 0, 0, 0, 0}) {
		t.Errorf("the front of a head without a root: % x", b[:8])
	}
	if !bytes.Equal(b[8:], make([]byte, 504)) {
		t.Errorf("behind the front of the zero head: % x", b[8:])
	}
}

// P19.1: a head without a root whose Root is not the zero one, by any of its bytes.
func TestWriteWrong(t *testing.T) {
	roots := []api.Ref{root(), {Sector: 1}, {Sector: 1 << 31}, {Sector: math.MaxUint32}}
	for i := range 32 {
		r := api.Ref{}
		r.Sum[i] = 1
		roots = append(roots, r)
	}
	for _, r := range roots {
		for _, number := range []uint64{0, 1, math.MaxUint64} {
			h := super.Head{Gen: number, Epoch: number, Root: r}
			if b, e := super.Write(h); len(b) != 0 || e != api.ErrForm {
				t.Errorf("Write of %v: %d bytes, %v", h, len(b), e)
			}
			wantNone(t, "a root that there is not", byHand(h))
			h.Has = true
			wantHead(t, "a root that there is", written(t, h), h)
		}
	}
}

// P19.4: heads go there and back, whatever comes of the bytes later.
func TestHeadThereAndBack(t *testing.T) {
	chance := rand.New(rand.NewPCG(19, 4))
	for range 3000 {
		h := random(chance)
		b := written(t, h)
		back, e := super.Read(b)
		clear(b)
		if e != api.OK || back != h {
			t.Fatalf("Read of %v: %v, %v", h, back, e)
		}
		if !bytes.Equal(written(t, back), byHand(h)) {
			t.Fatalf("%v is written otherwise later", h)
		}
	}
}

// P19.4: unlike heads have unlike bytes.
func TestUnlikeHeads(t *testing.T) {
	known := map[string]super.Head{}
	for _, h := range heads() {
		b := string(written(t, h))
		if other, there := known[b]; there {
			t.Fatalf("%v and %v have the same bytes", h, other)
		}
		known[b] = h
	}
}

// isHead tells whether the bytes of a head with one digit turned are a head's: in front of Has always, in the root if there is one.
func isHead(h super.Head, at, digit int) bool {
	switch {
	case at < atGen:
		return false
	case at < atHas:
		return true
	case at < atRoot:
		return at == atRoot-1 && digit == 0 && h.Root == (api.Ref{})
	}
	return at < atEnd && h.Has
}

// P19.1, P19.4: bytes with one digit turned are no head's, or those of another head.
func TestReadTurned(t *testing.T) {
	for _, h := range []super.Head{{}, {Gen: 7, Epoch: 9}, {Has: true}, {Gen: math.MaxUint64, Epoch: 3, Has: true, Root: root()}} {
		b := written(t, h)
		for at := range b {
			for digit := range 8 {
				b[at] ^= 1 << digit
				if isHead(h, at, digit) {
					got, e := super.Read(b)
					if e != api.OK || got == h || !bytes.Equal(written(t, got), b) {
						t.Fatalf("Read of %v with another byte %d: %v, %v", h, at, got, e)
					}
				} else {
					wantNone(t, "turned bytes", b)
				}
				b[at] ^= 1 << digit
			}
		}
		wantHead(t, "bytes that were turned back", b, h)
	}
}

// P19.1: each byte at each place of the front and of Has.
func TestReadFronts(t *testing.T) {
	for _, h := range []super.Head{{Gen: 1, Epoch: 2}, {Gen: 1, Epoch: 2, Has: true, Root: root()}} {
		b := written(t, h)
		for at := range atRoot {
			if at >= atGen && at < atHas {
				continue
			}
			right := b[at]
			for x := range 256 {
				if b[at] = byte(x); b[at] != right && (at != atRoot-1 || x > 1 || h.Has) {
					wantNone(t, "another byte", b)
				}
			}
			b[at] = right
		}
	}
	b := written(t, super.Head{Has: true})
	b[atRoot-1] = 0
	wantHead(t, "a zero root that there is not", b, super.Head{})
	b[atHas], b[atRoot-1] = 1, 1
	wantNone(t, "a Has of two digits", b)
}

// P19.1: bytes behind the root.
func TestReadBehind(t *testing.T) {
	for _, h := range []super.Head{{Gen: 1}, {Gen: 1, Has: true, Root: root()}} {
		b := written(t, h)
		for at := atEnd; at < len(b); at++ {
			for _, x := range []byte{1, 2, 128, 255} {
				b[at] = x
				wantNone(t, "a byte behind", b)
			}
			b[at] = 0
		}
	}
}

// P19.1: bytes that are cut short, or too long, whatever stands behind.
func TestReadLengths(t *testing.T) {
	for _, h := range []super.Head{{}, {Gen: 7, Has: true, Root: root()}} {
		b := append(written(t, h), make([]byte, api.Sector)...)
		for length := range len(b) + 1 {
			if length != api.Sector {
				wantNone(t, "another length", b[:length])
			}
		}
		wantHead(t, "bytes with others behind", b[:api.Sector], h)
		behind := append(written(t, h), 1, 2, 3)
		wantHead(t, "bytes with unlike ones behind", behind[:api.Sector], h)
		if !bytes.Equal(behind[api.Sector:], []byte{1, 2, 3}) {
			t.Error("what stands behind was changed")
		}
		wantNone(t, "two heads", append(written(t, h), written(t, h)...))
		wantNone(t, "a long text", append(written(t, h), make([]byte, api.MaxText)...))
	}
	wantNone(t, "nothing", nil)
	wantNone(t, "no bytes", []byte{})
	wantNone(t, "noughts", make([]byte, api.Sector))
	wantNone(t, "ones", bytes.Repeat([]byte{1}, api.Sector))
	wantNone(t, "255", bytes.Repeat([]byte{255}, api.Sector))
}

// P19.1: any bytes are no head's, or just those that it is written as; they stay as they are.
func TestReadNoise(t *testing.T) {
	chance := rand.New(rand.NewPCG(19, 1))
	heads := 0
	for range 20000 {
		b := noise(chance, api.Sector)
		if chance.IntN(8) > 0 {
			copy(b, "CMH1\x00\x00\x00\x00")
			clear(b[atHas : atRoot-1])
			b[atRoot-1] %= 3
			clear(b[atRoot+chance.IntN(2)*(atEnd-atRoot):])
		}
		kept := bytes.Clone(b)
		if h, e := super.Read(b); e == api.OK {
			heads++
			if !bytes.Equal(written(t, h), b) {
				t.Fatalf("Read of % x: %v", b, h)
			}
		} else {
			wantNone(t, "noise", b)
		}
		if !bytes.Equal(b, kept) {
			t.Fatal("Read changed its bytes")
		}
	}
	if heads < 1000 {
		t.Errorf("only %d of these are heads", heads)
	}
}

// P19.1: bytes that are told share nothing with others that are, nor with what was read.
func TestHeadApart(t *testing.T) {
	h := super.Head{Gen: 1, Epoch: 2, Has: true, Root: root()}
	one, two := written(t, h), written(t, h)
	got, _ := super.Read(one)
	for i := range one {
		one[i] ^= 255
	}
	if got != h || !bytes.Equal(two, byHand(h)) || !bytes.Equal(written(t, h), byHand(h)) {
		t.Error("what was told has changed with other bytes")
	}
}

// P19.3: a head that is one later, at the greatest Gen and below it, as all else of it is.
func TestNext(t *testing.T) {
	for _, h := range append(heads(), super.Head{Gen: 5, Root: root()}, super.Head{Gen: math.MaxUint64, Root: root()}) {
		want, code := h, api.OK
		want.Gen++
		if h.Gen == math.MaxUint64 {
			want, code = super.Head{}, api.ErrFull
		}
		if got, e := super.Next(h); got != want || e != code {
			t.Errorf("Next of %v: %v, %v", h, got, e)
		}
	}
	h := super.Head{Gen: math.MaxUint64 - 2, Has: true, Root: root()}
	for range 2 {
		later, e := super.Next(h)
		if e != api.OK || later.Gen != h.Gen+1 {
			t.Fatalf("Next of %v: %v, %v", h, later, e)
		}
		h = later
	}
	if _, e := super.Next(h); e != api.ErrFull {
		t.Errorf("Next of the last one: %v", e)
	}
}
