package keys_test

import (
	"crypto/aes"
	"crypto/hkdf"
	"crypto/sha256"
	"encoding/binary"
	"math"
	"math/rand/v2"
	"testing"

	"casemate/api"
	"casemate/keys"
	"casemate/slot"
)

// noise is a key of any bytes.
func noise(chance *rand.Rand) api.Key {
	var k api.Key
	for i := range k {
		k[i] = byte(chance.Uint32())
	}
	return k
}

// alike is a key of which all bytes are the same.
func alike(x byte) api.Key {
	var k api.Key
	for i := range k {
		k[i] = x
	}
	return k
}

// rising is a key of which all bytes are unlike.
func rising(from byte) api.Key {
	var k api.Key
	for i := range k {
		k[i] = from + byte(i)
	}
	return k
}

// some are unlike keys, which are also taken for salts.
func some() []api.Key {
	return []api.Key{{}, alike(255), alike(166), rising(0), rising(100), {1}, {31: 1}}
}

// derived is a key's key, told by another program.
func derived(t *testing.T, from []byte, name string, number uint64) api.Key {
	t.Helper()
	b, err := hkdf.Expand(sha256.New, from, string(binary.BigEndian.AppendUint64([]byte(name), number)), 32)
	if err != nil {
		t.Fatal(err)
	}
	return api.Key(b)
}

// lock is the check key and the wrapping key of an outer key and a salt, told by another program.
func lock(t *testing.T, outer api.Key, salt [32]byte) (api.Key, api.Key) {
	t.Helper()
	base, err := hkdf.Extract(sha256.New, outer[:], salt[:])
	if err != nil {
		t.Fatal(err)
	}
	return derived(t, base, "check", 0), derived(t, base, "wrap", 0)
}

// wrapped is four words wrapped over another program's cipher. The front is the word that stands ahead of them.
func wrapped(t *testing.T, key api.Key, front byte, words [32]byte) [40]byte {
	t.Helper()
	c, err := aes.NewCipher(key[:])
	if err != nil {
		t.Fatal(err)
	}
	var out [40]byte
	for i := range 8 {
		out[i] = front
	}
	copy(out[8:], words[:])
	for step := range uint64(24) {
		word := out[8+8*(step%4):][:8]
		block := append(append([]byte{}, out[:8]...), word...)
		c.Encrypt(block, block)
		binary.BigEndian.PutUint64(out[:8], binary.BigEndian.Uint64(block)^(step+1))
		copy(word, block[8:])
	}
	return out
}

// byHand is a slot, made in another way.
func byHand(t *testing.T, outer, master api.Key, salt [32]byte) slot.Slot {
	t.Helper()
	check, wrapping := lock(t, outer, salt)
	return slot.Slot{Salt: salt, Check: check, Wrapped: wrapped(t, wrapping, 166, master)}
}

func wantOpened(t *testing.T, what string, outer api.Key, s slot.Slot, want api.Key) {
	t.Helper()
	if got, e := keys.Open(outer, s); got != want || e != api.OK {
		t.Fatalf("Open of %s: %x, %v, want %x", what, got, e, want)
	}
}

func wantShut(t *testing.T, what string, outer api.Key, s slot.Slot, want api.Errno) {
	t.Helper()
	if got, e := keys.Open(outer, s); got != (api.Key{}) || e != want {
		t.Fatalf("Open of %s: %x, %v, want %v", what, got, e, want)
	}
}

// P21.1, P21.4: slots of all these outer keys, masters and salts are those that another program makes, and are opened with their keys alone.
func TestMake(t *testing.T) {
	for i, outer := range some() {
		for j, master := range some() {
			for k, salt := range some() {
				s := keys.Make(outer, master, salt)
				if s != byHand(t, outer, master, salt) {
					t.Fatalf("Make of %d, %d, %d: %v", i, j, k, s)
				}
				wantOpened(t, "what was made", outer, s, master)
			}
		}
	}
}

// P21.1: another outer key than its own.
func TestOpenOther(t *testing.T) {
	for i, outer := range some() {
		s := keys.Make(outer, rising(9), rising(50))
		for j, other := range some() {
			if i != j {
				wantShut(t, "a slot with another key", other, s, api.ErrKey)
			}
		}
		for at := range outer {
			other := outer
			other[at] ^= 1 << (at % 8)
			wantShut(t, "a slot with a key unlike in one digit", other, s, api.ErrKey)
		}
		// Neither what it locks up nor what stands in it opens it.
		wantShut(t, "a slot with its master", rising(9), s, api.ErrKey)
		wantShut(t, "a slot with its salt", rising(50), s, api.ErrKey)
		wantShut(t, "a slot with its check", s.Check, s, api.ErrKey)
	}
}

// P21.1: each byte of each part, turned in each of its digits.
func TestOpenTurned(t *testing.T) {
	for _, outer := range []api.Key{{}, alike(255), rising(1)} {
		right := keys.Make(outer, rising(77), rising(20))
		for at := range 40 {
			for _, digit := range []byte{1, 16, 128, 255} {
				if at < 32 {
					s := right
					s.Salt[at] ^= digit
					wantShut(t, "a slot with another salt", outer, s, api.ErrKey)
					s = right
					s.Check[at] ^= digit
					wantShut(t, "a slot with another check", outer, s, api.ErrKey)
					s.Wrapped[at] ^= digit
					wantShut(t, "a slot with another check and wrap", outer, s, api.ErrKey)
				}
				s := right
				s.Wrapped[at] ^= digit
				wantShut(t, "a slot with another wrap", outer, s, api.ErrIntegrity)
			}
		}
		wantOpened(t, "a slot that was not turned", outer, right, rising(77))
	}
}

// P21.1: slots of noughts, of bytes 255, and such as are put together of the parts of two.
func TestOpenWrong(t *testing.T) {
	one, two := keys.Make(rising(1), rising(2), rising(3)), keys.Make(rising(1), rising(4), rising(5))
	other := keys.Make(rising(6), rising(2), rising(3))
	for _, outer := range append(some(), rising(1)) {
		wantShut(t, "noughts", outer, slot.Slot{}, api.ErrKey)
		wantShut(t, "255", outer, slot.Slot{Salt: alike(255), Check: alike(255)}, api.ErrKey)
	}
	mixed := one
	mixed.Wrapped = two.Wrapped
	wantShut(t, "a slot with the wrap of another salt's", rising(1), mixed, api.ErrIntegrity)
	mixed.Wrapped = other.Wrapped
	wantShut(t, "a slot with the wrap of another key's", rising(1), mixed, api.ErrIntegrity)
	mixed.Wrapped = [40]byte{}
	wantShut(t, "a slot with a wrap of noughts", rising(1), mixed, api.ErrIntegrity)
	mixed.Check = two.Check
	wantShut(t, "a slot with another's check", rising(1), mixed, api.ErrKey)
	mixed.Salt, mixed.Wrapped = two.Salt, two.Wrapped
	wantOpened(t, "the other's three parts", rising(1), mixed, rising(4))
}

// P21.1: what is wrapped with the right key, but behind another front, does not unwrap; what is behind the right one does, whatever it is.
func TestOpenFront(t *testing.T) {
	check, wrapping := lock(t, rising(1), rising(2))
	s := slot.Slot{Salt: rising(2), Check: check}
	for front := range 256 {
		s.Wrapped = wrapped(t, wrapping, byte(front), rising(3))
		if front == 166 {
			wantOpened(t, "the right front", rising(1), s, rising(3))
		} else {
			wantShut(t, "another front", rising(1), s, api.ErrIntegrity)
		}
	}
	// The check key is not what wraps, nor is the base.
	s.Wrapped = wrapped(t, check, 166, rising(3))
	wantShut(t, "a wrap with the check key", rising(1), s, api.ErrIntegrity)
	s.Wrapped = wrapped(t, rising(1), 166, rising(3))
	wantShut(t, "a wrap with the outer key", rising(1), s, api.ErrIntegrity)
}

// P21.4: any outer keys, masters and salts; a slot that is changed later leaves the next one as it is.
func TestOpenNoise(t *testing.T) {
	chance := rand.New(rand.NewPCG(21, 4))
	for range 150 {
		outer, master, salt := noise(chance), noise(chance), noise(chance)
		s := keys.Make(outer, master, salt)
		wantOpened(t, "noise", outer, s, master)
		turned := s
		turned.Wrapped[chance.IntN(40)] ^= byte(1 + chance.IntN(255))
		wantShut(t, "a wrap that was turned", outer, turned, api.ErrIntegrity)
		wantShut(t, "noise with another key", noise(chance), s, api.ErrKey)
		if keys.Make(outer, master, salt) != s || s != byHand(t, outer, master, salt) {
			t.Fatalf("Make of %x, %x, %x is not the same twice", outer, master, salt)
		}
	}
}

// P21.1: a slot of a key that is changed keeps its master; salts make unlike slots of the same keys.
func TestChanged(t *testing.T) {
	known := map[slot.Slot]bool{}
	for _, outer := range some() {
		for _, salt := range some() {
			s := keys.Make(outer, rising(7), salt)
			wantOpened(t, "a slot", outer, s, rising(7))
			if known[s] {
				t.Fatalf("two slots are the same: %v", s)
			}
			known[s] = true
		}
	}
}

// P21.1: both keys of volumes, in their order, told by another program.
func TestVolume(t *testing.T) {
	known := map[api.Key]bool{}
	for _, master := range some() {
		for _, number := range []uint64{0, 1, 2, 255, 256, 1 << 32, 1 << 63, math.MaxUint64 - 1, math.MaxUint64} {
			one, two := keys.Volume(master, number)
			if one != derived(t, master[:], "one", number) || two != derived(t, master[:], "two", number) {
				t.Fatalf("Volume(%x, %d): %x, %x", master, number, one, two)
			}
			if known[one] || known[two] || one == two {
				t.Fatalf("Volume(%x, %d) tells a key of another one", master, number)
			}
			known[one], known[two] = true, true
			one[0]++
			if again, _ := keys.Volume(master, number); again == one {
				t.Fatal("a key has changed with one that was told")
			}
		}
	}
}
