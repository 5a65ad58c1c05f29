package seal_test

import (
	"bytes"
	"crypto/aes"
	"crypto/hkdf"
	"crypto/sha256"
	"encoding/binary"
	"math"
	"math/big"
	"math/rand/v2"
	"slices"
	"testing"

	"casemate/api"
	"casemate/keys"
	"casemate/seal"
)

func noise(chance *rand.Rand, count int) []byte {
	b := make([]byte, count)
	for i := range b {
		b[i] = byte(chance.Uint32())
	}
	return b
}

// rising is a key of which all bytes are unlike.
func rising(from byte) api.Key {
	var k api.Key
	for i := range k {
		k[i] = from + byte(i)
	}
	return k
}

func masters() []api.Key {
	return []api.Key{{}, api.Key(bytes.Repeat([]byte{255}, 32)), rising(0), rising(100)}
}

func numbers() []uint64 {
	return []uint64{0, 1, 256, 1 << 63, math.MaxUint64}
}

func stamps() []uint64 {
	return []uint64{0, 1, 255, 256, 1<<40 - 1, 1 << 40, 1<<40 + 1, 1 << 63, math.MaxUint64}
}

// blocks are unlike blocks.
func blocks() [][]byte {
	last := make([]byte, 512)
	last[511] = 1
	count := make([]byte, 512)
	for i := range count {
		count[i] = byte(i / 2)
	}
	return [][]byte{make([]byte, 512), bytes.Repeat([]byte{255}, 512), last, count}
}

// derived is a cipher of a master's key, told by another program.
func derived(t *testing.T, master api.Key, name string, number uint64) func(b []byte) []byte {
	t.Helper()
	k, err := hkdf.Expand(sha256.New, master[:], string(binary.BigEndian.AppendUint64([]byte(name), number)), 32)
	if err != nil {
		t.Fatal(err)
	}
	c, err := aes.NewCipher(k)
	if err != nil {
		t.Fatal(err)
	}
	return func(b []byte) []byte {
		out := make([]byte, 16)
		c.Encrypt(out, b)
		return out
	}
}

// byHand is a block sealed over another program's ciphers, with the masks worked out as numbers.
func byHand(t *testing.T, master api.Key, number, stamp uint64, plain []byte) []byte {
	t.Helper()
	one, two := derived(t, master, "one", number), derived(t, master, "two", number)
	mask := two(binary.LittleEndian.AppendUint64(binary.LittleEndian.AppendUint64(nil, stamp), 0))
	var out []byte
	for part := range slices.Chunk(plain, 16) {
		out = append(out, xored(one(xored(part, mask)), mask)...)
		mask = doubled(mask)
	}
	return out
}

func xored(a, b []byte) []byte {
	out := bytes.Clone(a)
	for i := range out {
		out[i] ^= b[i]
	}
	return out
}

// doubled is a mask, which is a number whose first byte is the least, doubled.
func doubled(mask []byte) []byte {
	m := bytes.Clone(mask)
	slices.Reverse(m)
	v := new(big.Int).SetBytes(m)
	v.Lsh(v, 1)
	if v.BitLen() > 128 {
		v.SetBit(v, 128, 0)
		v.Xor(v, big.NewInt(135))
	}
	v.FillBytes(m)
	slices.Reverse(m)
	return m
}

func sealed(t *testing.T, master api.Key, number, stamp uint64, plain []byte) []byte {
	t.Helper()
	b, e := seal.Seal(master, number, stamp, plain)
	if e != api.OK || len(b) != 512 || cap(b) != 512 {
		t.Fatalf("Seal of a block: %d bytes, %v", len(b), e)
	}
	return b
}

func opened(t *testing.T, master api.Key, number, stamp uint64, b []byte) []byte {
	t.Helper()
	plain, e := seal.Open(master, number, stamp, b)
	if e != api.OK || len(plain) != 512 || cap(plain) != 512 {
		t.Fatalf("Open of a block: %d bytes, %v", len(plain), e)
	}
	return plain
}

// P22.1, P22.3: all these masters, numbers, stamps and blocks, sealed as another program seals them, and opened.
func TestSeal(t *testing.T) {
	for _, master := range masters() {
		for _, number := range numbers() {
			for i, stamp := range stamps() {
				plain := blocks()[i%4]
				b := sealed(t, master, number, stamp, plain)
				if !bytes.Equal(b, byHand(t, master, number, stamp, plain)) {
					t.Fatalf("Seal(%x, %d, %d) of the block %d: % x", master, number, stamp, i%4, b)
				}
				if !bytes.Equal(opened(t, master, number, stamp, b), plain) {
					t.Fatalf("Open(%x, %d, %d) of the block %d is not what it was", master, number, stamp, i%4)
				}
			}
		}
	}
}

// P22.1, P22.3: any bytes can be opened, and come back when what was opened is sealed.
func TestOpenNoise(t *testing.T) {
	chance := rand.New(rand.NewPCG(22, 1))
	for range 100 {
		master, number, stamp, b := api.Key(noise(chance, 32)), chance.Uint64(), chance.Uint64(), noise(chance, 512)
		plain := opened(t, master, number, stamp, b)
		if !bytes.Equal(byHand(t, master, number, stamp, plain), b) || !bytes.Equal(sealed(t, master, number, stamp, plain), b) {
			t.Fatalf("Open(%x, %d, %d) of noise is another block's", master, number, stamp)
		}
	}
}

// P22.1: what is sealed tells another block with another stamp, number or master, or if it was turned.
func TestOpenOther(t *testing.T) {
	plain := blocks()[3]
	b := sealed(t, rising(3), 7, 1<<40+9, plain)
	other := func(what string, master api.Key, number, stamp uint64, b []byte) {
		t.Helper()
		got := opened(t, master, number, stamp, b)
		for at := 0; at < 512; at += 16 {
			if bytes.Equal(got[at:at+16], plain[at:at+16]) {
				t.Errorf("%s opens the part at %d", what, at)
			}
		}
	}
	for digit := range 64 {
		other("another stamp", rising(3), 7, (1<<40+9)^1<<digit, b)
		other("another number", rising(3), 7^1<<digit, 1<<40+9, b)
	}
	for at := range 32 {
		master := rising(3)
		master[at] ^= 1
		other("another master", master, 7, 1<<40+9, b)
	}
	other("what was never sealed", rising(3), 7, 1<<40+9, plain)
	other("what was sealed twice", rising(3), 7, 1<<40+9, sealed(t, rising(3), 7, 1<<40+9, b))
	for at := 0; at < 512; at += 16 {
		b[at] ^= 1
	}
	other("what was turned in all parts", rising(3), 7, 1<<40+9, b)
}

// P22.1: other lengths, whatever stands behind the bytes; the document's example.
func TestLengths(t *testing.T) {
	long := noise(rand.New(rand.NewPCG(22, 2)), api.MaxText+16)
	kept := bytes.Clone(long)
	lengths := []int{0, 1, 15, 16, 17, 256, 496, 511, 513, 528, 1024, api.MaxText, len(long)}
	for _, length := range lengths {
		for _, b := range [][]byte{long[:length], long[:length:length]} {
			if out, e := seal.Seal(rising(0), 1, 2, b); len(out) != 0 || e != api.ErrForm {
				t.Errorf("Seal of %d bytes: %d bytes, %v", length, len(out), e)
			}
			if out, e := seal.Open(rising(0), 1, 2, b); len(out) != 0 || e != api.ErrForm {
				t.Errorf("Open of %d bytes: %d bytes, %v", length, len(out), e)
			}
		}
	}
	if out, e := seal.Seal(api.Key{}, 0, 0, nil); len(out) != 0 || e != api.ErrForm {
		t.Errorf("Seal of nothing: %d bytes, %v", len(out), e)
	}
	if out, e := seal.Open(api.Key{}, 0, 0, nil); len(out) != 0 || e != api.ErrForm {
		t.Errorf("Open of nothing: %d bytes, %v", len(out), e)
	}
	b := sealed(t, rising(0), 1, 2, long[:512])
	if !bytes.Equal(opened(t, rising(0), 1, 2, append(b, 1, 2, 3)[:512]), long[:512]) || !bytes.Equal(long, kept) {
		t.Error("a block with bytes behind it is not what it was, or they were changed")
	}
}

// P22.1: bytes that are handed in stay as they are, and share nothing with those that are told.
func TestApart(t *testing.T) {
	plain := blocks()[3]
	b := sealed(t, rising(1), 2, 3, plain)
	if !bytes.Equal(plain, blocks()[3]) {
		t.Fatal("Seal changed the block")
	}
	want := bytes.Clone(b)
	back := opened(t, rising(1), 2, 3, b)
	if !bytes.Equal(b, want) {
		t.Fatal("Open changed what was sealed")
	}
	clear(plain)
	if !bytes.Equal(b, want) {
		t.Error("what was sealed has changed with the block")
	}
	clear(b)
	if !bytes.Equal(back, blocks()[3]) {
		t.Error("what was opened has changed with what was sealed")
	}
}

// parts are the places of the parts of sixteen bytes in which two blocks are unlike.
func parts(a, b []byte) []int {
	var l []int
	for at := 0; at < 512; at += 16 {
		if !bytes.Equal(a[at:at+16], b[at:at+16]) {
			l = append(l, at)
		}
	}
	return l
}

// P22.5: blocks that are unlike in one part, or in some, are sealed and opened with one stamp to ones that are unlike in just these.
func TestOneStamp(t *testing.T) {
	chance := rand.New(rand.NewPCG(22, 5))
	plain := noise(chance, 512)
	b := sealed(t, rising(5), 6, 7, plain)
	for at := range 512 {
		other := bytes.Clone(plain)
		other[at] ^= byte(1 + chance.IntN(255))
		if l := parts(b, sealed(t, rising(5), 6, 7, other)); !slices.Equal(l, []int{at &^ 15}) {
			t.Fatalf("blocks unlike in the byte %d are sealed to ones unlike in the parts %v", at, l)
		}
		other = bytes.Clone(b)
		other[at] ^= byte(1 + chance.IntN(255))
		if l := parts(plain, opened(t, rising(5), 6, 7, other)); !slices.Equal(l, []int{at &^ 15}) {
			t.Fatalf("blocks unlike in the byte %d are opened to ones unlike in the parts %v", at, l)
		}
	}
	for range 100 {
		other := bytes.Clone(plain)
		for range 1 + chance.IntN(40) {
			other[chance.IntN(512)] = byte(chance.Uint32())
		}
		if l := parts(b, sealed(t, rising(5), 6, 7, other)); !slices.Equal(l, parts(plain, other)) {
			t.Fatalf("blocks unlike in %v are sealed to ones unlike in %v", parts(plain, other), l)
		}
	}
}

// P22.1: unlike stamps, numbers and masters seal one block to unlike ones, in each part of them.
func TestTellNothing(t *testing.T) {
	known := map[string]bool{}
	for _, master := range masters() {
		for _, number := range numbers() {
			for _, stamp := range stamps() {
				for part := range slices.Chunk(sealed(t, master, number, stamp, make([]byte, 512)), 16) {
					if known[string(part)] {
						t.Fatalf("Seal(%x, %d, %d) tells a part that was told", master, number, stamp)
					}
					known[string(part)] = true
				}
			}
		}
	}
}

// counter is a counter of an epoch that may be.
func counter(t *testing.T, epoch uint64) *keys.Counter {
	t.Helper()
	c, e := keys.Count(epoch)
	if e != api.OK {
		t.Fatal(e)
	}
	return c
}
