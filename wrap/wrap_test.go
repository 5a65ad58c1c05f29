package wrap_test

import (
	"bytes"
	truth "crypto/aes"
	"encoding/binary"
	"encoding/hex"
	"slices"
	"testing"

	"casemate/api"
	"casemate/wrap"
)

// text is n bytes that are not all alike, others for each seed.
func text(n int, seed uint32) []byte {
	b := make([]byte, n)
	v := seed*2654435761 + 1
	for i := range b {
		v = v*1664525 + 1013904223
		b[i] = byte(v >> 24)
	}
	return b
}

func key(seed uint32) api.Key { return api.Key(text(32, seed)) }

// rising is the key 0 1 2 to 31, with which wraps were published.
func rising() api.Key {
	var k api.Key
	for i := range k {
		k[i] = byte(i)
	}
	return k
}

// published is the bytes 0 17 34 to 255, which were wrapped where wraps were published.
func published() []byte {
	b := make([]byte, 16)
	for i := range b {
		b[i] = byte(17 * i)
	}
	return b
}

// plain is the bytes that a text of pairs of digits tells.
func plain(t *testing.T, digits string) []byte {
	t.Helper()
	b, err := hex.DecodeString(digits)
	if err != nil {
		t.Fatal(err)
	}
	return b
}

// trueWrap wraps as the other way of RFC 3394 does, over another program's cipher: all words move on by one place at each step, so that the next one always stands first. The front is the word that stands ahead of them.
func trueWrap(t *testing.T, key api.Key, front, b []byte) []byte {
	t.Helper()
	c, err := truth.NewCipher(key[:])
	if err != nil {
		t.Fatal(err)
	}
	a, words := slices.Clone(front), slices.Clone(b)
	for step := 1; step <= 6*len(b)/8; step++ {
		block := append(slices.Clone(a), words[:8]...)
		c.Encrypt(block, block)
		a = binary.BigEndian.AppendUint64(nil, binary.BigEndian.Uint64(block)^uint64(step))
		words = append(slices.Clone(words[8:]), block[8:]...)
	}
	return append(a, words...)
}

// usual is the front that the document names.
func usual() []byte { return bytes.Repeat([]byte{166}, 8) }

// wrapped is bytes wrapped, where that may not fail.
func wrapped(t *testing.T, k api.Key, b []byte) []byte {
	t.Helper()
	out, e := wrap.Wrap(k, b)
	if e != api.OK || len(out) != len(b)+8 {
		t.Fatalf("Wrap of %d bytes: %d bytes, %v", len(b), len(out), e)
	}
	return out
}

// unwrapped is a wrap unwrapped, where that may not fail.
func unwrapped(t *testing.T, k api.Key, b []byte) []byte {
	t.Helper()
	out, e := wrap.Unwrap(k, b)
	if e != api.OK || len(out) != len(b)-8 {
		t.Fatalf("Unwrap of %d bytes: %d bytes, %v", len(b), len(out), e)
	}
	return out
}

// refused fails if Unwrap tells anything but that error.
func refused(t *testing.T, name string, k api.Key, b []byte, want api.Errno) {
	t.Helper()
	if out, e := wrap.Unwrap(k, b); e != want || len(out) != 0 {
		t.Errorf("Unwrap of %s: %d bytes, %v, want %v", name, len(out), e, want)
	}
}

// P7.1, P7.2: wraps that were published, whatever this program or its tests think.
func TestKnownWraps(t *testing.T) {
	more := append(published(), 0, 1, 2, 3, 4, 5, 6, 7)
	most := append(slices.Clone(more), 8, 9, 10, 11, 12, 13, 14, 15)
	for _, c := range []struct {
		b    []byte
		want string
	}{
		{published(), "64e8c3f9ce0f5ba263e9777905818a2a93c8191e7d6e8ae7"},
		{more, "a8f9bc1612c68b3ff6e6f4fbe30e71e4769c8b80a32cb8958cd5d17d6b254da1"},
		{most, "28c9f404c4b810f4cbccb35cfb87f8263f5786e2d80ed326cbc7f0e71a99f43bfb988b9b7a02dd21"},
	} {
		if got := wrapped(t, rising(), c.b); hex.EncodeToString(got) != c.want {
			t.Errorf("%x wrapped: %x, want %s", c.b, got, c.want)
		}
		if got := unwrapped(t, rising(), plain(t, c.want)); !bytes.Equal(got, c.b) {
			t.Errorf("%s unwrapped: %x, want %x", c.want, got, c.b)
		}
	}
}

// P7.1, P7.2: wraps that another program made, of few words, of some, and of the most.
func TestOthersWraps(t *testing.T) {
	for n, digits := range map[uint32]string{
		2: "a8be38c1b4f84b1109bd977412fbef4ed7e4242bf4c7b94a",
		3: "26b80f184244f766b5bb9516be4482fb2a2c6efac390a5e601d1e2c44fa23c19",
		4: "697ca56eb085c0ae1cb84ed88d449239daaeb689ed085dd61e63bfd6132005fe98a450121412c9ed",
		8: "c7e32406b67b0a4cf81e9755f87622637039e8fc1ecbd6641e735dd5e8c0f6fda82420598f53f863afab529e55c61e064c5b130794557516b750f736d6347b9889b2d14f02fe9887",
		16: "2a9a86f8d02380be2e827fc59f6765463a027779cb2cc174e15b46db12d0020b1a9aa14997ae39b5e1932bc2db72e25945d5cabf114e406c57e6120a6d742160" +
			"f3ed74d7ee4039d1085ad28f368b45cf22342e51e4940ee94ade322256fd837accdaf2fc280f11f3129932a93b75b5ee064c28dd76ecfc4acf5ba820c86861a8a99aaaeb32fe0508",
	} {
		b, want := text(int(8*n), n+100), plain(t, digits)
		if got := wrapped(t, key(n), b); !bytes.Equal(got, want) {
			t.Errorf("%d words wrapped: %x, want %x", n, got, want)
		}
		if got := unwrapped(t, key(n), want); !bytes.Equal(got, b) {
			t.Errorf("%d words unwrapped: %x, want %x", n, got, b)
		}
	}
}

// P7.1, P7.3: words of each number, with all kinds of keys, there and back.
func TestWraps(t *testing.T) {
	full := api.Key(bytes.Repeat([]byte{255}, 32))
	for n := 2; n <= 16; n++ {
		for i, k := range []api.Key{{}, full, rising(), key(1), key(2)} {
			for _, b := range [][]byte{make([]byte, 8*n), bytes.Repeat([]byte{255}, 8*n), bytes.Repeat([]byte{166}, 8*n), text(8*n, uint32(i))} {
				got := wrapped(t, k, b)
				if want := trueWrap(t, k, usual(), b); !bytes.Equal(got, want) {
					t.Errorf("%d words wrapped: %x, want %x", n, got, want)
				}
				if back := unwrapped(t, k, got); !bytes.Equal(back, b) {
					t.Errorf("%d words wrapped and unwrapped: %x, was %x", n, back, b)
				}
			}
		}
	}
}

// P7.1, P7.2: lengths that the document rules out, from none on, and those at both edges that it does not.
func TestLengths(t *testing.T) {
	lengths := []int{200, 256, 511, 512, 4096, api.MaxText - 8, api.MaxText, api.MaxText + 8}
	for n := range 160 {
		lengths = append(lengths, n)
	}
	for _, n := range lengths {
		want := api.ErrForm
		if n >= 16 && n <= 128 && n%8 == 0 {
			want = api.OK
		}
		if out, e := wrap.Wrap(key(1), text(n, 1)); e != want || e != api.OK && len(out) != 0 {
			t.Errorf("Wrap of %d bytes: %d bytes, %v, want %v", n, len(out), e, want)
		}
		want = api.ErrForm
		if n >= 24 && n <= 136 && n%8 == 0 {
			want = api.ErrMac
		}
		refused(t, "bytes that nobody wrapped", key(1), text(n, 1), want)
	}
	if out, e := wrap.Wrap(key(1), nil); e != api.ErrForm || len(out) != 0 {
		t.Errorf("Wrap of nil: %v, %v", out, e)
	}
	refused(t, "nil", key(1), nil, api.ErrForm)
}

// P7.2: a wrap of which a digit was turned, whichever, is none.
func TestTurned(t *testing.T) {
	for _, n := range []int{2, 3, 4, 16} {
		w := wrapped(t, key(1), text(8*n, 1))
		for i := range 8 * len(w) {
			w[i/8] ^= 1 << (i % 8)
			refused(t, "a wrap with a turned digit", key(1), w, api.ErrMac)
			w[i/8] ^= 1 << (i % 8)
		}
		unwrapped(t, key(1), w)
	}
}

// P7.2: all eight bytes in front must be 166, whatever stands behind them.
func TestOtherFronts(t *testing.T) {
	for _, n := range []int{2, 5, 16} {
		b := text(8*n, 1)
		for i := range 64 {
			front := usual()
			front[i/8] ^= 1 << (i % 8)
			refused(t, "another front", key(1), trueWrap(t, key(1), front, b), api.ErrMac)
		}
		for _, front := range [][]byte{make([]byte, 8), bytes.Repeat([]byte{255}, 8), bytes.Repeat([]byte{0x59}, 8)} {
			refused(t, "another front", key(1), trueWrap(t, key(1), front, b), api.ErrMac)
		}
		if got := unwrapped(t, key(1), trueWrap(t, key(1), usual(), b)); !bytes.Equal(got, b) {
			t.Errorf("the usual front: %x, want %x", got, b)
		}
	}
}

// P7.2: a wrap of another key, words in another order, and fewer or more words, are none.
func TestOtherWraps(t *testing.T) {
	w := wrapped(t, key(1), text(32, 1))
	for i := range 256 {
		k := key(1)
		k[i/8] ^= 1 << (i % 8)
		refused(t, "another key's wrap", k, w, api.ErrMac)
	}
	for at := 0; at+16 <= len(w); at += 8 {
		other := slices.Concat(w[:at], w[at+8:at+16], w[at:at+8], w[at+16:])
		refused(t, "words in another order", key(1), other, api.ErrMac)
	}
	refused(t, "a word less", key(1), w[:32], api.ErrMac)
	refused(t, "a word less in front", key(1), w[8:], api.ErrMac)
	refused(t, "a word more", key(1), append(slices.Clone(w), 0, 0, 0, 0, 0, 0, 0, 0), api.ErrMac)
	refused(t, "a byte more", key(1), append(slices.Clone(w), 0), api.ErrForm)
	refused(t, "a byte less", key(1), w[:39], api.ErrForm)
	refused(t, "what is not wrapped", key(1), append(usual(), text(32, 1)...), api.ErrMac)
}

// P7.3: what unwraps, by whomever it was made, is the wrap of what comes.
func TestWrapOfWhatComes(t *testing.T) {
	for n := 2; n <= 16; n++ {
		for seed := range uint32(8) {
			w := trueWrap(t, key(seed), usual(), text(8*n, seed))
			if got := wrapped(t, key(seed), unwrapped(t, key(seed), w)); !bytes.Equal(got, w) {
				t.Errorf("%x unwrapped and wrapped: %x", w, got)
			}
		}
	}
}

// P7.4: words that are unlike in a digit, or that are others altogether, have unlike wraps.
func TestUnlike(t *testing.T) {
	for _, n := range []int{2, 3, 16} {
		was := map[string]string{}
		tell := func(b []byte) {
			w := string(wrapped(t, key(1), b))
			if other, ok := was[w]; ok {
				t.Errorf("%x and %x are wrapped to one", other, b)
			}
			was[w] = string(b)
		}
		b := make([]byte, 8*n)
		tell(b)
		for i := range 8 * len(b) {
			b[i/8] ^= 1 << (i % 8)
			tell(b)
			b[i/8] ^= 1 << (i % 8)
		}
		for seed := range uint32(200) {
			tell(text(8*n, seed))
		}
	}
}

// P7.1, P7.2: what is handed in stays, with what lies behind its end; what is handed out is new memory each time.
func TestMemory(t *testing.T) {
	room := text(200, 1)
	was := slices.Clone(room)
	w := wrapped(t, key(1), room[:16])
	unwrapped(t, key(1), append(w, 9, 9, 9)[:24])
	if !bytes.Equal(room, was) {
		t.Error("Wrap writes into what it was handed")
	}
	copy(room, w)
	was = slices.Clone(room)
	b := unwrapped(t, key(1), room[:24])
	if !bytes.Equal(room, was) {
		t.Error("Unwrap writes into what it was handed")
	}
	refused(t, "a wrong wrap", key(1), room[:32], api.ErrMac)
	if !bytes.Equal(room, was) {
		t.Error("Unwrap writes into what it refuses")
	}
	again := unwrapped(t, key(1), room[:24])
	b[0]++
	if bytes.Equal(again, b) || !bytes.Equal(room, was) {
		t.Error("what was unwrapped is not new memory")
	}
	other := wrapped(t, key(1), again)
	other[0]++
	if !bytes.Equal(wrapped(t, key(1), again), w) {
		t.Error("what was wrapped is not new memory")
	}
}
