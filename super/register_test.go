package super_test

import (
	"encoding/binary"
	"math"
	"math/rand/v2"
	"testing"

	"casemate/api"
	"casemate/super"
)

// Where the Which of a register's bytes stands.
const atWhich = 48

// registers are registers that may be, each unlike the others; the first is that of noughts.
func registers() []super.Register {
	var l []super.Register
	numbers := []uint64{0, 1, 256, 0x0102030405060708, 1 << 63, math.MaxUint64}
	for _, sum := range []api.Sum{{}, {1}, {31: 1}, root().Sum} {
		for _, gen := range numbers {
			for _, epoch := range numbers {
				for which := range uint8(2) {
					l = append(l, super.Register{Sum: sum, Gen: gen, Epoch: epoch, Which: which})
				}
			}
		}
	}
	return l
}

// regByHand is a register's bytes, put together in another way, whatever its Which.
func regByHand(r super.Register) [64]byte {
	var b [64]byte
	copy(b[:], r.Sum[:])
	binary.BigEndian.PutUint64(b[32:], r.Gen)
	binary.BigEndian.PutUint64(b[40:], r.Epoch)
	b[atWhich] = r.Which
	return b
}

func writtenReg(t *testing.T, r super.Register) [64]byte {
	t.Helper()
	b, e := super.WriteReg(r)
	if e != api.OK {
		t.Fatalf("WriteReg of %v: %v", r, e)
	}
	return b
}

func wantReg(t *testing.T, what string, b [64]byte, want super.Register) {
	t.Helper()
	if r, e := super.ReadReg(b); e != api.OK || r != want {
		t.Fatalf("ReadReg of %s: %v, %v, want %v", what, r, e, want)
	}
}

// wantNoReg fails if bytes are taken for a register's, or if another error is told.
func wantNoReg(t *testing.T, what string, b [64]byte, want api.Errno) {
	t.Helper()
	if r, e := super.ReadReg(b); e != want || r != (super.Register{}) {
		t.Fatalf("ReadReg of %s: %v, %v, want %v", what, r, e, want)
	}
}

// P19.2, P19.4: registers' bytes, put together by hand, and back; all but those of the register of noughts, which are blank.
func TestRegister(t *testing.T) {
	for _, r := range registers() {
		b := writtenReg(t, r)
		if b != regByHand(r) {
			t.Fatalf("WriteReg of %v:\n% x, want\n% x", r, b, regByHand(r))
		}
		if r != (super.Register{}) {
			wantReg(t, "a register's bytes", b, r)
		}
	}
	if b := writtenReg(t, super.Register{}); b != [64]byte{} {
		t.Errorf("WriteReg of noughts: % x", b)
	}
	wantNoReg(t, "noughts", [64]byte{}, api.ErrNone)
}

// P19.2: a Which above 1, of registers of all kinds.
func TestRegisterWhich(t *testing.T) {
	for _, r := range registers() {
		for which := 2; which <= 255; which++ {
			r.Which = uint8(which)
			if b, e := super.WriteReg(r); e != api.ErrForm || b != [64]byte{} {
				t.Fatalf("WriteReg of %v: % x, %v", r, b, e)
			}
			wantNoReg(t, "another Which", regByHand(r), api.ErrForm)
		}
	}
}

// P19.4: registers go there and back.
func TestRegisterThereAndBack(t *testing.T) {
	chance := rand.New(rand.NewPCG(19, 2))
	for range 3000 {
		r := super.Register{Sum: api.Sum(noise(chance, 32)), Gen: chance.Uint64(), Epoch: chance.Uint64(), Which: uint8(chance.IntN(2))}
		wantReg(t, "a register's bytes", writtenReg(t, r), r)
	}
}

// P19.4: unlike registers have unlike bytes.
func TestUnlikeRegisters(t *testing.T) {
	known := map[[64]byte]super.Register{}
	for _, r := range registers() {
		b := writtenReg(t, r)
		if other, there := known[b]; there {
			t.Fatalf("%v and %v have the same bytes", r, other)
		}
		known[b] = r
	}
}

// P19.2, P19.4: bytes with another one at a place are no register's, or those of another register.
func TestReadRegTurned(t *testing.T) {
	for _, r := range []super.Register{{}, {Which: 1}, {Gen: 1, Epoch: 2}, {Sum: root().Sum, Gen: 3, Epoch: math.MaxUint64, Which: 1}} {
		b := writtenReg(t, r)
		for at := range b {
			right := b[at]
			for x := range 256 {
				b[at] = byte(x)
				switch {
				case b == [64]byte{}:
					wantNoReg(t, "blank ones", b, api.ErrNone)
				case b[at] == right:
					wantReg(t, "its own bytes", b, r)
				case at < atWhich || at == atWhich && x <= 1:
					got, e := super.ReadReg(b)
					if e != api.OK || got == r || writtenReg(t, got) != b {
						t.Fatalf("ReadReg of %v with another byte %d: %v, %v", r, at, got, e)
					}
				default:
					wantNoReg(t, "another byte", b, api.ErrForm)
				}
			}
			b[at] = right
		}
	}
}

// P19.2: a byte behind Which, of registers of all kinds; the blank one is blank no more by it.
func TestReadRegBehind(t *testing.T) {
	for _, r := range registers() {
		b := writtenReg(t, r)
		for at := atWhich + 1; at < len(b); at++ {
			for _, x := range []byte{1, 128, 255} {
				b[at] = x
				wantNoReg(t, "a byte behind", b, api.ErrForm)
			}
			b[at] = 0
		}
	}
	var full [64]byte
	for i := range full {
		full[i] = 255
	}
	wantNoReg(t, "255", full, api.ErrForm)
}
