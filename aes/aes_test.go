package aes_test

import (
	"bytes"
	truth "crypto/aes"
	"encoding/hex"
	"testing"

	"casemate/aes"
	"casemate/api"
	"casemate/gf"
)

// text is n bytes that are not all alike, others for each seed.
func text(n int, seed uint32) []byte {
	b := make([]byte, n)
	v := seed*2654435761 + 1
	for i := range b {
		v = v*1664525 + 1013904223
		b[i] = byte(v >> 24)
	}
	return b
}

func key(seed uint32) api.Key    { return api.Key(text(32, seed)) }
func block(seed uint32) [16]byte { return [16]byte(text(16, seed+1<<20)) }

// fullKey and fullBlock have one byte throughout.
func fullKey(x byte) api.Key    { return api.Key(bytes.Repeat([]byte{x}, 32)) }
func fullBlock(x byte) [16]byte { return [16]byte(bytes.Repeat([]byte{x}, 16)) }

// plain is the bytes that a text of pairs of digits tells.
func plain(t *testing.T, digits string) []byte {
	t.Helper()
	b, err := hex.DecodeString(digits)
	if err != nil {
		t.Fatal(err)
	}
	return b
}

// trueTurn is a block turned as another program does it.
func trueTurn(t *testing.T, key api.Key, b [16]byte) [16]byte {
	t.Helper()
	c, err := truth.NewCipher(key[:])
	if err != nil {
		t.Fatal(err)
	}
	var out [16]byte
	c.Encrypt(out[:], b[:])
	return out
}

// trueBack is a block turned back as another program does it.
func trueBack(t *testing.T, key api.Key, b [16]byte) [16]byte {
	t.Helper()
	c, err := truth.NewCipher(key[:])
	if err != nil {
		t.Fatal(err)
	}
	var out [16]byte
	c.Decrypt(out[:], b[:])
	return out
}

// published is the words of the key that is their beginning, as they were published.
const published = "603deb1015ca71be2b73aef0857d77811f352c073b6108d72d9810a30914dff4" +
	"9ba354118e6925afa51a8b5f2067fcde" + "a8b09c1a93d194cdbe49846eb75d5b9a" +
	"d59aecb85bf3c917fee94248de8ebe96" + "b5a9328a2678a647983122292f6c79b3" +
	"812c81addadf48ba24360af2fab8b464" + "98c5bfc9bebd198e268c3ba709e04214" +
	"68007bacb2df331696e939e46c518d80" + "c814e20476a9fb8a5025c02d59c58239" +
	"de1369676ccc5a71fa2563959674ee15" + "5886ca5d2e2f31d77e0af1fa27cf73c3" +
	"749c47ab18501ddae2757e4f7401905a" + "cafaaae3e4d59b349adf6acebd10190d" +
	"fe4890d1e6188d0b046df344706c631e"

// P5.1: words that were published, whatever this program or its tests think.
func TestKnownWords(t *testing.T) {
	all := plain(t, published)
	if len(all) != 240 {
		t.Fatalf("%d bytes of words", len(all))
	}
	for i, w := range aes.New(api.Key(all[:32])).Words() {
		if w != [4]byte(all[4*i:]) {
			t.Errorf("the word %d: %x, want %x", i, w, all[4*i:4*i+4])
		}
	}
}

// P5.1: the words by the document's words, one by one.
func TestWords(t *testing.T) {
	keys := []api.Key{{}, fullKey(255), fullKey(82), {1}, {31: 128}}
	for seed := range uint32(50) {
		keys = append(keys, key(seed))
	}
	for _, k := range keys {
		words := aes.New(k).Words()
		for i, w := range words {
			var want [4]byte
			for n := range 4 {
				if i < 8 {
					want[n] = k[4*i+n]
					continue
				}
				x := words[i-1][n]
				if i%8 == 0 {
					x = gf.Box(words[i-1][(n+1)%4])
				}
				if i%8 == 4 {
					x = gf.Box(x)
				}
				if i%8 == 0 && n == 0 {
					x ^= byte(1 << (i/8 - 1))
				}
				want[n] = words[i-8][n] ^ x
			}
			if w != want {
				t.Fatalf("the word %d of the key %x: %x, want %x", i, k, w, want)
			}
		}
	}
}

// P5.1: nil, and a cipher that no call made, have noughts for words.
func TestWordsOfNone(t *testing.T) {
	var none *aes.Cipher
	if none.Words() != [60][4]byte{} || new(aes.Cipher).Words() != [60][4]byte{} {
		t.Error("words of no key")
	}
	if aes.New(api.Key{}).Words() == [60][4]byte{} {
		t.Error("the key of noughts has no words")
	}
}

// P5.1, DOC, rule 5: the words that are handed out are nobody else's.
func TestWordsAreNew(t *testing.T) {
	c := aes.New(key(1))
	was := c.Words()
	words := c.Words()
	clear(words[:])
	if c.Words() != was || c.Turn(block(1)) != trueTurn(t, key(1), block(1)) {
		t.Error("a cipher hangs on what was done to its words")
	}
}

// P5.2: blocks that were published, both ways.
func TestKnownBlocks(t *testing.T) {
	const rising = "000102030405060708090a0b0c0d0e0f101112131415161718191a1b1c1d1e1f"
	beginning := published[:64]
	noughts := hex.EncodeToString(make([]byte, 32))
	for _, c := range []struct{ key, plain, turned string }{
		{rising, "00112233445566778899aabbccddeeff", "8ea2b7ca516745bfeafc49904b496089"},
		{beginning, "6bc1bee22e409f96e93d7e117393172a", "f3eed1bdb5d2a03c064b5a7e3db181f8"},
		{beginning, "ae2d8a571e03ac9c9eb76fac45af8e51", "591ccb10d410ed26dc5ba74a31362870"},
		{beginning, "30c81c46a35ce411e5fbc1191a0a52ef", "b6ed21b99ca6f4f9f153e7b1beafed1d"},
		{beginning, "f69f2445df4f9b17ad2b417be66c3710", "23304b7a39f9f3ff067d8d8f9e24ecc7"},
		{noughts, "00000000000000000000000000000000", "dc95c078a2408989ad48a21492842087"},
		{noughts, "014730f80ac625fe84f026c60bfd547d", "5c9d844ed46f9885085e5d6a4f94c7d7"},
	} {
		cipher := aes.New(api.Key(plain(t, c.key)))
		one, two := [16]byte(plain(t, c.plain)), [16]byte(plain(t, c.turned))
		if got := cipher.Turn(one); got != two {
			t.Errorf("%s turned: %s, want %s", c.plain, hex.EncodeToString(got[:]), c.turned)
		}
		if got := cipher.Back(two); got != one {
			t.Errorf("%s turned back: %s, want %s", c.turned, hex.EncodeToString(got[:]), c.plain)
		}
	}
}

// sames fails if a block goes another way than in another program.
func sames(t *testing.T, k api.Key, b [16]byte) {
	t.Helper()
	c := aes.New(k)
	if got, want := c.Turn(b), trueTurn(t, k, b); got != want {
		t.Errorf("%x turned with %x: %x, want %x", b, k, got, want)
	}
	if got, want := c.Back(b), trueBack(t, k, b); got != want {
		t.Errorf("%x turned back with %x: %x, want %x", b, k, got, want)
	}
}

// P5.2: keys and blocks of all kinds go as in another program.
func TestBlocks(t *testing.T) {
	for seed := range uint32(500) {
		sames(t, key(seed), block(seed))
	}
	for _, x := range []byte{0, 1, 82, 99, 128, 255} {
		for _, y := range []byte{0, 1, 82, 99, 128, 255} {
			sames(t, fullKey(x), fullBlock(y))
		}
	}
}

// P5.2: each digit of a key and of a block counts, and at its place.
func TestDigits(t *testing.T) {
	for i := range 256 {
		k := api.Key{}
		k[i/8] = 1 << (i % 8)
		sames(t, k, [16]byte{})
	}
	for i := range 128 {
		b := [16]byte{}
		b[i/8] = 1 << (i % 8)
		sames(t, api.Key{}, b)
	}
}

// P5.2, P1: nil, and a cipher that no call made, turn all to noughts.
func TestTurnOfNone(t *testing.T) {
	var none *aes.Cipher
	for _, c := range []*aes.Cipher{none, {}, new(aes.Cipher)} {
		for _, b := range [][16]byte{{}, fullBlock(255), block(3)} {
			if c.Turn(b) != [16]byte{} || c.Back(b) != [16]byte{} {
				t.Errorf("%x turned with no key", b)
			}
		}
	}
}

// P5.3: there and back, and the other way round.
func TestThereAndBack(t *testing.T) {
	for seed := range uint32(200) {
		c := aes.New(key(seed))
		for n := range uint32(5) {
			b := block(5*seed + n)
			if c.Back(c.Turn(b)) != b || c.Turn(c.Back(b)) != b {
				t.Fatalf("%x does not go there and back", b)
			}
		}
	}
}

// P5.4: unlike blocks are turned to unlike ones, both ways.
func TestUnlike(t *testing.T) {
	c := aes.New(key(7))
	turned, back := map[[16]byte]int{}, map[[16]byte]int{}
	count := 0
	see := func(b [16]byte) {
		count++
		turned[c.Turn(b)]++
		back[c.Back(b)]++
	}
	see(block(1))
	for i := range 128 {
		b := block(1)
		b[i/8] ^= 1 << (i % 8)
		see(b)
	}
	for i := range 16 {
		for x := 1; x < 256; x++ {
			b := [16]byte{}
			b[i] = byte(x)
			see(b)
		}
	}
	if len(turned) != count || len(back) != count {
		t.Errorf("%d blocks are turned to %d, and back to %d", count, len(turned), len(back))
	}
}

// DOC, rule 7: what a cipher answers hangs on its key and the block alone.
func TestOwnKeyAlone(t *testing.T) {
	one, two := aes.New(key(1)), aes.New(key(2))
	first := one.Turn(block(1))
	two.Turn(block(1))
	two.Back(block(2))
	if one.Turn(block(1)) != first || aes.New(key(1)).Turn(block(1)) != first {
		t.Error("a cipher hangs on what was asked of it, or of another one")
	}
	if two.Turn(block(1)) == first {
		t.Error("the key does not count")
	}
	copied := *one
	if copied.Turn(block(1)) != first || copied.Back(first) != block(1) {
		t.Error("a copy of a cipher turns otherwise")
	}
}

func BenchmarkTurn(b *testing.B) {
	c := aes.New(key(1))
	b.SetBytes(16)
	for b.Loop() {
		c.Turn(block(1))
	}
}
