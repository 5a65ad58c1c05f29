package slot_test

import (
	"bytes"
	"math"
	"math/rand/v2"
	"testing"

	"casemate/api"
	"casemate/slot"
)

// Where the parts of a slot's bytes stand.
const (
	atSalt    = 8
	atCheck   = 40
	atWrapped = 72
	atEnd     = 112
)

// noise is so many bytes.
func noise(chance *rand.Rand, count int) []byte {
	b := make([]byte, count)
	for i := range b {
		b[i] = byte(chance.Uint32())
	}
	return b
}

func random(chance *rand.Rand) slot.Slot {
	return slot.Slot{Salt: [32]byte(noise(chance, 32)), Check: [32]byte(noise(chance, 32)), Wrapped: [40]byte(noise(chance, 40))}
}

// alike is a slot of which all bytes are the same.
func alike(x byte) slot.Slot {
	b := bytes.Repeat([]byte{x}, 40)
	return slot.Slot{Salt: [32]byte(b[:32]), Check: [32]byte(b[:32]), Wrapped: [40]byte(b)}
}

// rising is a slot of which all bytes are unlike, and none is 0.
func rising() slot.Slot {
	var s slot.Slot
	for i := range 40 {
		s.Salt[i%32], s.Check[i%32], s.Wrapped[i] = byte(1+i%32), byte(51+i%32), byte(101+i)
	}
	return s
}

// slots are unlike slots; the first is that of noughts.
func slots() []slot.Slot {
	l := []slot.Slot{{}, alike(255), alike(1), alike(75), rising()}
	for i := range 40 {
		var one, two, three slot.Slot
		one.Wrapped[i] = 1
		l = append(l, one)
		if i < 32 {
			two.Salt[i], three.Check[i] = 1, 1
			l = append(l, two, three)
		}
	}
	return l
}

// byHand is a slot's bytes, put together in another way.
func byHand(s slot.Slot) []byte {
	b := []byte{75, 0, 0, 0, 0, 0, 0, 0}
	b = append(b, s.Salt[:]...)
	b = append(b, s.Check[:]...)
	b = append(b, s.Wrapped[:]...)
	return append(b, make([]byte, 400)...)
}

func written(t *testing.T, s slot.Slot) []byte {
	t.Helper()
	b := slot.Write(s)
	if len(b) != api.Sector || cap(b) != api.Sector {
		t.Fatalf("Write: %d bytes", len(b))
	}
	return b
}

func wantSlot(t *testing.T, what string, b []byte, want slot.Slot) {
	t.Helper()
	if s, e := slot.Read(b); e != api.OK || s != want {
		t.Fatalf("Read of %s: %v, %v, want %v", what, s, e, want)
	}
}

// wantNone fails if bytes are taken for a slot's.
func wantNone(t *testing.T, what string, b []byte) {
	t.Helper()
	if s, e := slot.Read(b); e != api.ErrForm || s != (slot.Slot{}) {
		t.Fatalf("Read of %s: %v, %v", what, s, e)
	}
}

// P20.1: slots' bytes, put together by hand, and back.
func TestSlot(t *testing.T) {
	for _, s := range slots() {
		b := written(t, s)
		if !bytes.Equal(b, byHand(s)) {
			t.Fatalf("Write of %v:\n% x, want\n% x", s, b, byHand(s))
		}
		wantSlot(t, "a slot's bytes", b, s)
	}
}

// P20.3: slots go there and back, whatever comes of the bytes later.
func TestThereAndBack(t *testing.T) {
	chance := rand.New(rand.NewPCG(20, 3))
	for range 3000 {
		s := random(chance)
		b := written(t, s)
		back, e := slot.Read(b)
		clear(b)
		if e != api.OK || back != s {
			t.Fatalf("Read of %v: %v, %v", s, back, e)
		}
		if !bytes.Equal(written(t, back), byHand(s)) {
			t.Fatalf("%v is written otherwise later", s)
		}
	}
}

// P20.3: unlike slots have unlike bytes.
func TestUnlike(t *testing.T) {
	known := map[string]slot.Slot{}
	for _, s := range slots() {
		b := string(written(t, s))
		if other, there := known[b]; there {
			t.Fatalf("%v and %v have the same bytes", s, other)
		}
		known[b] = s
	}
}

// P20.1, P20.3: each byte at each place: in the parts it makes another slot, elsewhere none.
func TestReadTurned(t *testing.T) {
	for _, s := range []slot.Slot{{}, alike(255), rising()} {
		b := written(t, s)
		for at := range b {
			right := b[at]
			for x := range 256 {
				if b[at] = byte(x); b[at] == right {
					continue
				}
				if at >= atSalt && at < atEnd {
					got, e := slot.Read(b)
					if e != api.OK || got == s || !bytes.Equal(written(t, got), b) {
						t.Fatalf("Read of %v with another byte %d: %v, %v", s, at, got, e)
					}
				} else {
					wantNone(t, "another byte", b)
				}
			}
			b[at] = right
		}
		wantSlot(t, "bytes that were turned back", b, s)
	}
}

// P20.1: the parts stand one behind the other, each at its place.
func TestPlacesOfParts(t *testing.T) {
	b := written(t, rising())
	for at, x := range map[int]byte{0: 75, 1: 0, atSalt - 1: 0, atSalt: 1, atCheck - 1: 32, atCheck: 51, atWrapped - 1: 82, atWrapped: 101, atEnd - 1: 140, atEnd: 0, 511: 0} {
		if b[at] != x {
			t.Errorf("the byte %d is %d, want %d", at, b[at], x)
		}
	}
}

// P20.1: bytes that are cut short, or too long, whatever stands behind; the document's example.
func TestReadLengths(t *testing.T) {
	for _, s := range []slot.Slot{{}, alike(255), rising()} {
		b := append(written(t, s), make([]byte, api.Sector)...)
		for length := range len(b) + 1 {
			if length != api.Sector {
				wantNone(t, "another length", b[:length])
			}
		}
		wantSlot(t, "bytes with others behind", b[:api.Sector], s)
		behind := append(written(t, s), 1, 2, 3)
		wantSlot(t, "bytes with unlike ones behind", behind[:api.Sector], s)
		if !bytes.Equal(behind[api.Sector:], []byte{1, 2, 3}) {
			t.Error("what stands behind was changed")
		}
		wantNone(t, "two slots", append(written(t, s), written(t, s)...))
		wantNone(t, "a long text", append(written(t, s), make([]byte, api.MaxText)...))
	}
	wantNone(t, "nothing", nil)
	wantNone(t, "no bytes", []byte{})
	wantNone(t, "noughts", make([]byte, api.Sector))
	wantNone(t, "75", bytes.Repeat([]byte{75}, api.Sector))
	wantNone(t, "255", bytes.Repeat([]byte{255}, api.Sector))
}

// P20.1: any bytes are no slot's, or just those that it is written as; they stay as they are.
func TestReadNoise(t *testing.T) {
	chance := rand.New(rand.NewPCG(20, 1))
	found := 0
	for range 20000 {
		b := noise(chance, api.Sector)
		if chance.IntN(4) > 0 {
			b[0] = 75 + byte(chance.IntN(2))
			clear(b[1 : 7+chance.IntN(2)])
			clear(b[atEnd-1+chance.IntN(3):])
		}
		kept := bytes.Clone(b)
		if s, e := slot.Read(b); e == api.OK {
			found++
			if !bytes.Equal(written(t, s), b) {
				t.Fatalf("Read of % x: %v", b, s)
			}
		} else {
			wantNone(t, "noise", b)
		}
		if !bytes.Equal(b, kept) {
			t.Fatal("Read changed its bytes")
		}
	}
	if found < 1000 {
		t.Errorf("only %d of these are slots", found)
	}
}

// P20.1, P20.3: a sector of noughts, which is no slot.
func TestBlank(t *testing.T) {
	b := slot.Blank()
	if !bytes.Equal(b, make([]byte, 512)) || cap(b) != 512 {
		t.Errorf("Blank: % x", b)
	}
	wantNone(t, "a blank one", b)
	if bytes.Equal(written(t, slot.Slot{}), b) {
		t.Error("the slot of noughts is written as a blank one")
	}
}

// P20.1: bytes that are told share nothing with others that are, nor with what was read.
func TestApart(t *testing.T) {
	s := rising()
	one, two, blank := written(t, s), written(t, s), slot.Blank()
	got, _ := slot.Read(one)
	for i := range one {
		one[i] ^= 255
		blank[i] = 255
	}
	if got != s || !bytes.Equal(two, byHand(s)) || !bytes.Equal(written(t, s), byHand(s)) {
		t.Error("what was told has changed with other bytes")
	}
	if !bytes.Equal(slot.Blank(), make([]byte, 512)) {
		t.Error("Blank has changed with what it told ahead")
	}
}

// P20.2, P20.4: the places of all tenants and copies are the sectors from 2 to 17, in order; the document's example.
func TestPlace(t *testing.T) {
	next := uint32(2)
	for tenant := 1; tenant <= 8; tenant++ {
		for which := range 2 {
			if at, e := slot.Place(tenant, which); at != next || e != api.OK {
				t.Errorf("Place(%d, %d): %d, %v, want %d", tenant, which, at, e, next)
			}
			next++
		}
	}
	if next != 18 {
		t.Errorf("the last place is %d", next-1)
	}
	if at, e := slot.Place(1, 0); at != 2 || e != api.OK {
		t.Errorf("Place(1, 0): %d, %v", at, e)
	}
}

// P20.2: tenants and copies that may not be, one of both or both; also those of which twice the number leaves its type.
func TestPlaceWrong(t *testing.T) {
	wrong := []int{math.MinInt, math.MinInt + 1, math.MinInt / 2, -9, -2, -1, math.MaxInt / 2, math.MaxInt/2 + 2, math.MaxInt - 1, math.MaxInt, 1 << 31, 1 << 32, 1<<32 + 1}
	tenants, copies := append([]int{0, 9, 10, 17}, wrong...), append([]int{2, 3, 8}, wrong...)
	refuse := func(tenant, which int) {
		t.Helper()
		if at, e := slot.Place(tenant, which); at != 0 || e != api.ErrArg {
			t.Errorf("Place(%d, %d): %d, %v", tenant, which, at, e)
		}
	}
	for _, tenant := range tenants {
		for _, which := range append(copies, 0, 1) {
			refuse(tenant, which)
		}
	}
	for _, which := range copies {
		for tenant := 1; tenant <= api.MaxTenants; tenant++ {
			refuse(tenant, which)
		}
	}
}
