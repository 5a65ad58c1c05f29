package xts_test

import (
	"bytes"
	truth "crypto/aes"
	"encoding/hex"
	"math"
	"math/big"
	"slices"
	"testing"

	"casemate/api"
	"casemate/xts"
)

// text is n bytes that are not all alike, others for each seed.
func text(n int, seed uint32) []byte {
	b := make([]byte, n)
	v := seed*2654435761 + 1
	for i := range b {
		v = v*1664525 + 1013904223
		b[i] = byte(v >> 24)
	}
	return b
}

func key(seed uint32) api.Key   { return api.Key(text(32, seed)) }
func mask(seed uint32) [16]byte { return [16]byte(text(16, seed+1<<20)) }

// cipher is the cipher that most tests ask.
func cipher() *xts.Cipher { return xts.New(key(1), key(2)) }

// plain is the bytes that a text of pairs of digits tells.
func plain(t *testing.T, digits string) []byte {
	t.Helper()
	b, err := hex.DecodeString(digits)
	if err != nil {
		t.Fatal(err)
	}
	return b
}

// number is a mask as a number, its first byte the least.
func number(m [16]byte) *big.Int {
	l := slices.Clone(m[:])
	slices.Reverse(l)
	return new(big.Int).SetBytes(l)
}

// trueDouble is a mask doubled as a number: what is 2^128 or more is taken away with 2^128 and 135.
func trueDouble(m [16]byte) [16]byte {
	v := new(big.Int).Lsh(number(m), 1)
	if v.BitLen() > 128 {
		v.SetBit(v, 128, 0)
		v.Xor(v, big.NewInt(135))
	}
	out := [16]byte(v.FillBytes(make([]byte, 16)))
	slices.Reverse(out[:])
	return out
}

// trueSector is a sector that goes one way, block by block, over another program's cipher.
func trueSector(t *testing.T, one, two api.Key, tweak [16]byte, b []byte, back bool) []byte {
	t.Helper()
	c, err := truth.NewCipher(one[:])
	if err != nil {
		t.Fatal(err)
	}
	tweaks, err := truth.NewCipher(two[:])
	if err != nil {
		t.Fatal(err)
	}
	m := tweak
	tweaks.Encrypt(m[:], m[:])
	out := slices.Clone(b)
	for at := 0; at < len(b); at += 16 {
		part := out[at : at+16]
		for i := range part {
			part[i] ^= m[i]
		}
		if back {
			c.Decrypt(part, part)
		} else {
			c.Encrypt(part, part)
		}
		for i := range part {
			part[i] ^= m[i]
		}
		m = trueDouble(m)
	}
	return out
}

// turned is a sector turned, where that may not fail.
func turned(t *testing.T, c *xts.Cipher, tweak [16]byte, b []byte) []byte {
	t.Helper()
	out, e := c.Turn(tweak, b)
	if e != api.OK || len(out) != len(b) {
		t.Fatalf("Turn of %d bytes: %d bytes, %v", len(b), len(out), e)
	}
	return out
}

// turnedBack is a sector turned back, where that may not fail.
func turnedBack(t *testing.T, c *xts.Cipher, tweak [16]byte, b []byte) []byte {
	t.Helper()
	out, e := c.Back(tweak, b)
	if e != api.OK || len(out) != len(b) {
		t.Fatalf("Back of %d bytes: %d bytes, %v", len(b), len(out), e)
	}
	return out
}

// lengths are of sectors: of one block, of few, of a disk's, and of MaxText bytes.
func lengths() []int {
	return []int{16, 32, 48, 112, 256, 512, 528, 4096, api.MaxText - 16, api.MaxText}
}

// P6.1: masks doubled, of which some lose a digit at the top.
func TestDouble(t *testing.T) {
	for _, c := range []struct{ m, want [16]byte }{
		{[16]byte{}, [16]byte{}},
		{[16]byte{1}, [16]byte{2}},
		{[16]byte{128}, [16]byte{0, 1}},
		{[16]byte{14: 128}, [16]byte{15: 1}},
		{[16]byte{15: 1}, [16]byte{15: 2}},
		{[16]byte{15: 64}, [16]byte{15: 128}},
		{[16]byte{15: 128}, [16]byte{135}},
		{[16]byte{0: 1, 15: 128}, [16]byte{133}},
		{[16]byte{0: 128, 15: 192}, [16]byte{0: 135, 1: 1, 15: 128}},
		{[16]byte(bytes.Repeat([]byte{255}, 16)), [16]byte(append([]byte{121}, bytes.Repeat([]byte{255}, 15)...))},
	} {
		if got := xts.Double(c.m); got != c.want {
			t.Errorf("%v doubled: %v, want %v", c.m, got, c.want)
		}
	}
}

// P6.1: each digit moves up by one, and all masks double as numbers do.
func TestDoubleOfAll(t *testing.T) {
	for i := range 128 {
		m := [16]byte{}
		m[i/8] = 1 << (i % 8)
		if got, want := xts.Double(m), trueDouble(m); got != want {
			t.Errorf("the digit %d doubled: %v, want %v", i, got, want)
		}
	}
	for seed := range uint32(300) {
		m := mask(seed)
		for range 130 {
			got := xts.Double(m)
			if want := trueDouble(m); got != want {
				t.Fatalf("%v doubled: %v, want %v", m, got, want)
			}
			m = got
		}
	}
}

// P6.1: a stamp's tweak is its bytes, the least first, and eight bytes 0.
func TestTweak(t *testing.T) {
	for _, c := range []struct {
		stamp uint64
		want  [16]byte
	}{
		{0, [16]byte{}},
		{1, [16]byte{1}},
		{258, [16]byte{2, 1}},
		{0x0102030405060708, [16]byte{8, 7, 6, 5, 4, 3, 2, 1}},
		{1<<40 + 2, [16]byte{0: 2, 5: 1}},
		{1 << 63, [16]byte{7: 128}},
		{math.MaxUint64, [16]byte{255, 255, 255, 255, 255, 255, 255, 255}},
	} {
		if got := xts.Tweak(c.stamp); got != c.want {
			t.Errorf("the tweak of %d: %v, want %v", c.stamp, got, c.want)
		}
	}
}

// longest is a sector that was published, turned with the stamp 255.
const longest = "1c3b3a102f770386e4836c99e370cf9bea00803f5e482357a4ae12d414a3e63b" + "5d31e276f8fe4a8d66b317f9ac683f44680a86ac35adfc3345befecb4bb188fd" +
	"5776926c49a3095eb108fd1098baec70aaa66999a72a82f27d848b21d4a741b0" + "c5cd4d5fff9dac89aeba122961d03a757123e9870f8acf1000020887891429ca" +
	"2a3e7a7d7df7b10355165c8b9a6d0a7de8b062c4500dc4cd120c0f7418dae3d0" + "b5781c34803fa75421c790dfe1de1834f280d7667b327f6c8cd7557e12ac3a0f" +
	"93ec05c52e0493ef31a12d3d9260f79a289d6a379bc70c50841473d1a8cc81ec" + "583e9645e07b8d9670655ba5bbcfecc6dc3966380ad8fecb17b6ba02469a020a" +
	"84e18e8f84252070c13e9f1f289be54fbc481457778f616015e1327a02b140f1" + "505eb309326d68378f8374595c849d84f4c333ec4423885143cb47bd71c5edae" +
	"9be69a2ffeceb1bec9de244fbe15992b11b77c040f12bd8f6a975a44a0f90c29" + "a9abc3d4d893927284c58754cce294529f8614dcd2aba991925fedc4ae74ffac" +
	"6e333b93eb4aff0479da9a410e4450e0dd7ae4c6e2910900575da401fc07059f" + "645e8b7e9bfdef33943054ff84011493c27b3429eaedb4ed5376441a77ed4385" +
	"1ad77f16f541dfd269d50d6a5f14fb0aab1cbb4c1550be97f7ab4066193c4caa" + "773dad38014bd2092fa755c824bb5e54c4f36ffda9fcea70b9c6e693e148c151"

// P6.2: sectors that were published, both ways, whatever this program or its tests think.
func TestKnownSectors(t *testing.T) {
	c := xts.New(
		api.Key(plain(t, "2718281828459045235360287471352662497757247093699959574966967627")),
		api.Key(plain(t, "3141592653589793238462643383279502884197169399375105820974944592")),
	)
	sector := make([]byte, 512)
	for i := range sector {
		sector[i] = byte(i)
	}
	for _, k := range []struct {
		stamp uint64
		want  string
	}{
		{0xff, longest},
		{0xffff, "77a31251618a15e6b92d1d66dffe7b50b50bad552305ba0217a610688eff7e11"},
		{0xffffff, "e387aaa58ba483afa7e8eb469778317ecf4cf573aa9d4eac23f2cdf914e4e200"},
		{0xffffffff, "bf53d2dade78e822a4d949a9bc6766b01b06a8ef70d26748c6a7fc36d80ae4c5"},
		{0xffffffffff, "64497e5a831e4a932c09be3e5393376daa599548b816031d224bbf50a818ed23"},
	} {
		want := plain(t, k.want)
		if got := turned(t, c, xts.Tweak(k.stamp), sector); !bytes.Equal(got[:len(want)], want) {
			t.Errorf("turned with %d: %x", k.stamp, got)
		}
		if got := turnedBack(t, c, xts.Tweak(k.stamp), want); !bytes.Equal(got, sector[:len(want)]) {
			t.Errorf("turned back with %d: %x", k.stamp, got)
		}
	}
}

// P6.2: sectors of all lengths, from one block to MaxText bytes, with all kinds of keys and tweaks.
func TestSectors(t *testing.T) {
	for i, n := range lengths() {
		seed := uint32(i)
		one, two, tweak, b := key(2*seed), key(2*seed+1), mask(seed), text(n, seed)
		c := xts.New(one, two)
		if !bytes.Equal(turned(t, c, tweak, b), trueSector(t, one, two, tweak, b, false)) {
			t.Errorf("a sector of %d bytes is turned otherwise", n)
		}
		if !bytes.Equal(turnedBack(t, c, tweak, b), trueSector(t, one, two, tweak, b, true)) {
			t.Errorf("a sector of %d bytes is turned back otherwise", n)
		}
	}
	noughts, full := api.Key{}, api.Key(bytes.Repeat([]byte{255}, 32))
	for _, one := range []api.Key{noughts, full} {
		for _, two := range []api.Key{noughts, full} {
			for _, tweak := range [][16]byte{{}, {15: 128}, [16]byte(full[:16])} {
				c, b := xts.New(one, two), make([]byte, 512)
				if !bytes.Equal(turned(t, c, tweak, b), trueSector(t, one, two, tweak, b, false)) || !bytes.Equal(turnedBack(t, c, tweak, b), trueSector(t, one, two, tweak, b, true)) {
					t.Errorf("noughts with the tweak %v go otherwise", tweak)
				}
			}
		}
	}
}

// P6.2: each of both keys counts, and which is which.
func TestBothKeysCount(t *testing.T) {
	b := text(512, 1)
	was := turned(t, xts.New(key(1), key(2)), mask(1), b)
	for _, l := range [][2]api.Key{{key(1), key(1)}, {key(2), key(2)}, {key(2), key(1)}, {key(1), key(3)}, {key(3), key(2)}} {
		got := turned(t, xts.New(l[0], l[1]), mask(1), b)
		for at := 0; at < len(b); at += 16 {
			if bytes.Equal(got[at:at+16], was[at:at+16]) {
				t.Errorf("the block at %d is the same with other keys", at)
			}
		}
	}
}

// wrong is bytes that are no sector.
func wrong() [][]byte {
	l := [][]byte{nil, {}}
	for _, n := range []int{1, 8, 15, 17, 31, 33, 511, 513, api.MaxText - 1, api.MaxText + 1, api.MaxText + 16, 2 * api.MaxText} {
		l = append(l, text(n, 1))
	}
	return l
}

// P6.2: what is no sector is ErrForm, and nothing beside it.
func TestNoSector(t *testing.T) {
	for _, b := range wrong() {
		if got, e := cipher().Turn(mask(1), b); e != api.ErrForm || len(got) != 0 {
			t.Errorf("Turn of %d bytes: %d bytes, %v", len(b), len(got), e)
		}
		if got, e := cipher().Back(mask(1), b); e != api.ErrForm || len(got) != 0 {
			t.Errorf("Back of %d bytes: %d bytes, %v", len(b), len(got), e)
		}
	}
}

// P6.2: nil, and a cipher that no call made, are ErrNil, ahead of what is no sector.
func TestNoCipher(t *testing.T) {
	var none *xts.Cipher
	for _, c := range []*xts.Cipher{none, {}, new(xts.Cipher)} {
		for _, b := range append(wrong(), text(16, 1), text(512, 1), text(api.MaxText, 1)) {
			if got, e := c.Turn(mask(1), b); e != api.ErrNil || len(got) != 0 {
				t.Errorf("Turn of %d bytes: %d bytes, %v", len(b), len(got), e)
			}
			if got, e := c.Back(mask(1), b); e != api.ErrNil || len(got) != 0 {
				t.Errorf("Back of %d bytes: %d bytes, %v", len(b), len(got), e)
			}
		}
	}
}

// P6.3: there and back, and the other way round.
func TestThereAndBack(t *testing.T) {
	for _, n := range lengths() {
		b := text(n, 9)
		if !bytes.Equal(turnedBack(t, cipher(), mask(1), turned(t, cipher(), mask(1), b)), b) {
			t.Errorf("%d bytes turned and turned back are others", n)
		}
		if !bytes.Equal(turned(t, cipher(), mask(1), turnedBack(t, cipher(), mask(1), b)), b) {
			t.Errorf("%d bytes turned back and turned are others", n)
		}
	}
}

// unlikeAt is the blocks in which two sectors of one length are unlike.
func unlikeAt(a, b []byte) []int {
	var l []int
	for i := range len(a) / 16 {
		if !bytes.Equal(a[16*i:16*i+16], b[16*i:16*i+16]) {
			l = append(l, i)
		}
	}
	return l
}

// P6.4: a sector that is unlike in some blocks is turned to one that is unlike just there, both ways.
func TestUnlikeBlocks(t *testing.T) {
	for _, way := range []func(*testing.T, *xts.Cipher, [16]byte, []byte) []byte{turned, turnedBack} {
		b := text(512, 4)
		was := way(t, cipher(), mask(1), b)
		for i := range 512 {
			b[i] ^= 1 << (i % 8)
			if got := unlikeAt(way(t, cipher(), mask(1), b), was); !slices.Equal(got, []int{i / 16}) {
				t.Fatalf("unlike in the byte %d, turned unlike in the blocks %v", i, got)
			}
			b[i] ^= 1 << (i % 8)
		}
		b[0], b[100], b[111], b[511] = b[0]+1, b[100]+1, b[111]+1, b[511]+1
		if got := unlikeAt(way(t, cipher(), mask(1), b), was); !slices.Equal(got, []int{0, 6, 31}) {
			t.Errorf("unlike in the blocks 0, 6 and 31, turned unlike in %v", got)
		}
	}
}

// P6.4: a block hangs neither on how long the sector is, nor on others; but on its place.
func TestPlaceOfBlocks(t *testing.T) {
	all := text(api.MaxText, 5)
	whole := turned(t, cipher(), mask(2), all)
	for _, n := range lengths() {
		if !bytes.Equal(turned(t, cipher(), mask(2), all[:n]), whole[:n]) {
			t.Errorf("the first %d bytes hang on what is behind them", n)
		}
	}
	seen := map[string]int{}
	alike := turned(t, cipher(), mask(2), make([]byte, api.MaxText))
	for at := 0; at < len(alike); at += 16 {
		seen[string(alike[at:at+16])]++
	}
	if len(seen) != api.MaxText/16 {
		t.Errorf("alike blocks at %d places are turned to %d", api.MaxText/16, len(seen))
	}
}

// P6.5: unlike stamps have unlike tweaks.
func TestUnlikeStamps(t *testing.T) {
	seen := map[[16]byte]uint64{}
	stamps := map[uint64]int{0: 1, math.MaxUint64: 1}
	for i := range 64 {
		for k := range 300 {
			stamps[uint64(k)<<i]++
		}
	}
	for stamp := range stamps {
		tweak := xts.Tweak(stamp)
		if other, ok := seen[tweak]; ok {
			t.Errorf("%d and %d have one tweak", stamp, other)
		}
		seen[tweak] = stamp
	}
}

// P6.5: unlike masks are doubled to unlike ones: what is doubled can be halved.
func TestUnlikeMasks(t *testing.T) {
	seen := map[[16]byte]int{}
	count := 0
	see := func(m [16]byte) {
		seen[xts.Double(m)]++
		count++
	}
	see([16]byte{})
	for i := range 128 {
		for k := range i + 1 { // of one digit, where both are one
			m := [16]byte{}
			m[i/8] |= 1 << (i % 8)
			m[k/8] |= 1 << (k % 8)
			see(m)
		}
	}
	if len(seen) != count {
		t.Errorf("%d masks are doubled to %d", count, len(seen))
	}
	for seed := range uint32(1000) {
		half := number(xts.Double(mask(seed)))
		if half.Bit(0) == 1 { // only a digit that left at the top sets the lowest
			half.Xor(half, big.NewInt(135)).SetBit(half, 128, 1)
		}
		if half.Rsh(half, 1).Cmp(number(mask(seed))) != 0 {
			t.Fatalf("%v doubled is not halved", mask(seed))
		}
	}
}

// DOC, rules 4 and 5: nothing that is handed in is changed, what lies behind it is left alone, and what is handed out is new.
func TestAllIsLeftAlone(t *testing.T) {
	for _, way := range []func(*testing.T, *xts.Cipher, [16]byte, []byte) []byte{turned, turnedBack} {
		all := text(1024, 6)
		was := slices.Clone(all)
		c := cipher()
		got := way(t, c, mask(1), all[:512])
		if !bytes.Equal(all, was) {
			t.Error("a sector was changed, or what is behind it")
		}
		kept := slices.Clone(got)
		clear(all)
		if !bytes.Equal(got, kept) {
			t.Error("what was handed out hangs on what was handed in")
		}
		clear(got)
		if !bytes.Equal(way(t, c, mask(1), was[:512]), kept) {
			t.Error("a cipher hangs on what was done to what it handed out")
		}
	}
	for _, n := range []int{15, 0} { // a whole block lies there, but not in the list
		if got, e := cipher().Turn(mask(1), text(32, 1)[:n]); e != api.ErrForm || len(got) != 0 {
			t.Errorf("Turn of %d bytes with more behind them: %v", n, e)
		}
	}
}

// DOC, rule 7: what a cipher answers hangs on its keys, the tweak and the sector alone.
func TestOwnKeysAlone(t *testing.T) {
	b := text(512, 8)
	one, two := cipher(), xts.New(key(3), key(4))
	first := turned(t, one, mask(1), b)
	turned(t, two, mask(2), b)
	turnedBack(t, one, mask(3), b)
	one.Turn(mask(4), b[:3])
	if !bytes.Equal(turned(t, one, mask(1), b), first) || !bytes.Equal(turned(t, cipher(), mask(1), b), first) {
		t.Error("a cipher hangs on what was asked of it, or of another one")
	}
	if bytes.Equal(turned(t, one, mask(2), b), first) {
		t.Error("the tweak does not count")
	}
}

func BenchmarkSector(b *testing.B) {
	c, sector := cipher(), text(512, 1)
	b.SetBytes(512)
	for b.Loop() {
		c.Turn(mask(1), sector)
	}
}

func BenchmarkSectorBack(b *testing.B) {
	c, sector := cipher(), text(512, 1)
	b.SetBytes(512)
	for b.Loop() {
		c.Back(mask(1), sector)
	}
}
