package hmac_test

import (
	"bytes"
	"crypto/hkdf"
	truth "crypto/hmac"
	"crypto/sha256"
	"encoding/hex"
	"math"
	"testing"

	"casemate/api"
	"casemate/hmac"
	"casemate/octet"
	"casemate/sha"
)

// text is n bytes that are not all alike.
func text(n int) []byte {
	b := make([]byte, n)
	v := uint32(n) + 1
	for i := range b {
		v = v*1664525 + 1013904223
		b[i] = byte(v >> 24)
	}
	return b
}

// key is a key that is not all alike.
func key() api.Key {
	return api.Key(text(32))
}

// plain is the bytes that a text of pairs of digits tells.
func plain(t *testing.T, digits string) []byte {
	t.Helper()
	b, err := hex.DecodeString(digits)
	if err != nil {
		t.Fatal(err)
	}
	return b
}

// trueMac is the mark as another program makes it.
func trueMac(key, b []byte) api.Sum {
	h := truth.New(sha256.New, key)
	h.Write(b)
	return api.Sum(h.Sum(nil))
}

// trueStream is the beginning of a stream as another program makes it.
func trueStream(t *testing.T, key api.Key, name []byte, n int) []byte {
	t.Helper()
	b, err := hkdf.Expand(sha256.New, key[:], string(name), n)
	if err != nil {
		t.Fatal(err)
	}
	return b
}

// P3.1: marks that were published, whatever this program or its tests think.
func TestKnownMac(t *testing.T) {
	for _, c := range []struct {
		key, text []byte
		want      string
	}{
		{bytes.Repeat([]byte{0x0b}, 20), []byte("Hi There"), "b0344c61d8db38535ca8afceaf0bf12b881dc200c9833da726e9376c2e32cff7"},
		{[]byte("Jefe"), []byte("what do ya want for nothing?"), "5bdcc146bf60754e6a042426089575c75a003f089d2739839dec58b964ec3843"},
		{bytes.Repeat([]byte{0xaa}, 20), bytes.Repeat([]byte{0xdd}, 50), "773ea91e36800e46854db8ebd09181a72959098b3ef8c122d9635514ced565fe"},
		{plain(t, "0102030405060708090a0b0c0d0e0f10111213141516171819"), bytes.Repeat([]byte{0xcd}, 50), "82558a389a443c0ea4cc819899f2083a85f0faa3e578f8077a2e3ff46729665b"},
		{bytes.Repeat([]byte{0xaa}, 131), []byte("Test Using Larger Than Block-Size Key - Hash Key First"), "60e431591ee0b67f0d8a26aacbf5b77f8e0bc6213728c5140546040f0ee37f54"},
		{bytes.Repeat([]byte{0xaa}, 131), []byte("This is a test using a larger than block-size key and a larger than block-size data. The key needs to be hashed before being used by the HMAC algorithm."), "9b09ffa71b942fcb27635fbcd5b0e944bfdc63644f0713938a7f51535c3a35e2"},
		{nil, nil, "b613679a0814d9ec772f95d778c35fc5ff1697c493715653c6c712144292c5ad"},
	} {
		if m := hmac.Mac(c.key, c.text); hex.EncodeToString(m[:]) != c.want {
			t.Errorf("the mark of %q with %x: %x, want %s", c.text, c.key, m, c.want)
		}
	}
}

// P3.1: keys and texts of all lengths around the ends of blocks.
func TestMac(t *testing.T) {
	lengths := []int{0, 1, 8, 31, 32, 33, 55, 56, 63, 64, 65, 66, 119, 127, 128, 129, 500}
	for _, k := range lengths {
		for _, n := range lengths {
			if m, want := hmac.Mac(text(k), text(n)), trueMac(text(k), text(n)); m != want {
				t.Errorf("a text of %d bytes with a key of %d: %x, want %x", n, k, m, want)
			}
		}
	}
	if m, want := hmac.Mac(text(api.MaxText), text(api.MaxText+1)), trueMac(text(api.MaxText), text(api.MaxText+1)); m != want {
		t.Errorf("a long key and text: %x, want %x", m, want)
	}
	if hmac.Mac(nil, nil) != hmac.Mac([]byte{}, []byte{}) {
		t.Error("nothing has another mark than an empty text")
	}
}

// P3.1: a key and a text are not the same as where they meet elsewhere, nor the other way round.
func TestMacTellsApart(t *testing.T) {
	a, b := text(20), text(30)
	if hmac.Mac(a, b) == hmac.Mac(b, a) {
		t.Error("the order of key and text does not count")
	}
	if hmac.Mac(a[:19], append(a[19:20:20], b...)) == hmac.Mac(a, b) {
		t.Error("where the key ends does not count")
	}
}

// P3.1: Right knows the mark, and nothing that is unlike it in a digit, in its length or in what it is of.
func TestRight(t *testing.T) {
	for _, k := range []int{0, 32, 64, 65} {
		for _, n := range []int{0, 1, 64, 300} {
			m := hmac.Mac(text(k), text(n))
			if !hmac.Right(text(k), text(n), m[:]) {
				t.Errorf("the mark of %d bytes with a key of %d is not right", n, k)
			}
			for i := range 8 * len(m) {
				m[i/8] ^= 1 << (i % 8)
				if hmac.Right(text(k), text(n), m[:]) {
					t.Errorf("the mark of %d bytes with a key of %d is right with the digit %d turned", n, k, i)
				}
				m[i/8] ^= 1 << (i % 8)
			}
			if hmac.Right(text(k), text(n+1), m[:]) || hmac.Right(text(k+1), text(n), m[:]) {
				t.Errorf("the mark of %d bytes with a key of %d is right of others", n, k)
			}
		}
	}
}

// P3.1: Right of lists that are no marks at all.
func TestRightOfNone(t *testing.T) {
	k, b := text(10), text(20)
	m := hmac.Mac(k, b)
	long := append(bytes.Clone(m[:]), 0)
	for _, wrong := range [][]byte{nil, {}, {0}, m[:1], m[:31], m[1:], long, make([]byte, 32), make([]byte, 64), append(bytes.Clone(m[:]), m[:]...)} {
		if hmac.Right(k, b, wrong) {
			t.Errorf("%x is right", wrong)
		}
		if hmac.Right(nil, nil, wrong) {
			t.Errorf("%x is right of nothing", wrong)
		}
	}
	if !hmac.Right(k, b, long[:32]) || hmac.Right(k, b, long[:31]) {
		t.Error("what lies behind a mark's length counts")
	}
}

// P3.1: Extract is the mark with the salt, as a key; the published one too.
func TestExtract(t *testing.T) {
	got := hmac.Extract(plain(t, "000102030405060708090a0b0c"), bytes.Repeat([]byte{0x0b}, 22))
	if hex.EncodeToString(got[:]) != "077709362c2e32df0ddc3f0dc47bba6390b6c73bb50f9c3122ec844ad7c2b3e5" {
		t.Errorf("the published key: %x", got)
	}
	for _, s := range []int{0, 1, 32, 64, 65, 200} {
		for _, n := range []int{0, 1, 32, 64, 65, 200} {
			if hmac.Extract(text(s), text(n)) != api.Key(trueMac(text(s), text(n))) {
				t.Errorf("Extract of a salt of %d bytes and a text of %d", s, n)
			}
		}
	}
}

// P3.3: a key of up to 64 bytes is as it with bytes 0 behind it; a longer one as its sum.
func TestKeysThatAreAlike(t *testing.T) {
	b := text(100)
	for n := range 65 {
		for more := n; more <= 64; more++ {
			filled, e := octet.Pad(text(n), more)
			if e != api.OK {
				t.Fatal(e)
			}
			if hmac.Mac(text(n), b) != hmac.Mac(filled, b) {
				t.Errorf("a key of %d bytes is not as it filled to %d", n, more)
			}
		}
	}
	for _, n := range []int{65, 66, 100, 128, 1000} {
		sum := sha.Sum(text(n))
		if hmac.Mac(text(n), b) != hmac.Mac(sum[:], b) {
			t.Errorf("a key of %d bytes is not as its sum", n)
		}
		if hmac.Mac(text(n), b) == hmac.Mac(text(n)[:64], b) {
			t.Errorf("a key of %d bytes is as its first 64", n)
		}
	}
	sum := sha.Sum(text(64))
	if hmac.Mac(text(64), b) == hmac.Mac(sum[:], b) {
		t.Error("a key of 64 bytes is as its sum")
	}
	longer := append(text(64), 0)
	if hmac.Mac(text(64), b) == hmac.Mac(longer, b) {
		t.Error("a key of 64 bytes is as it with a byte 0 behind it")
	}
}

// P3.2: streams that were published.
func TestKnownStream(t *testing.T) {
	first := hmac.Extract(plain(t, "000102030405060708090a0b0c"), bytes.Repeat([]byte{0x0b}, 22))
	bare := hmac.Extract(nil, bytes.Repeat([]byte{0x0b}, 22))
	for _, c := range []struct {
		key  api.Key
		name string
		want string
	}{
		{first, "f0f1f2f3f4f5f6f7f8f9", "3cb25f25faacd57a90434f64d0362f2a2d2d0a90cf1a5a4c5db02d56ecc4c5bf34007208d5b887185865"},
		{bare, "", "8da4e775a563c18f715f802a063c5a31b8a11f5c5ee1879ec3454e5f3c738d2d9d201395faa4b61a96c8"},
	} {
		got, e := hmac.Expand(c.key, plain(t, c.name), len(c.want)/2)
		if e != api.OK || hex.EncodeToString(got) != c.want {
			t.Errorf("the stream of %q: %x %v, want %s", c.name, got, e, c.want)
		}
	}
}

// P3.2: the stream, of lengths around the ends of parts, up to the longest.
func TestExpand(t *testing.T) {
	for _, n := range []int{0, 1, 31, 32, 33, 63, 64, 65, 96, 4095, 8128, 8129, 8159, 8160} {
		for _, k := range []int{0, 1, 9, 64, 300} {
			got, e := hmac.Expand(key(), text(k), n)
			if want := trueStream(t, key(), text(k), n); e != api.OK || !bytes.Equal(got, want) {
				t.Errorf("%d bytes of the stream of a name of %d: %v", n, k, e)
			}
		}
	}
}

// P3.2: of its parts the first is the mark of the name and 1, each further one that of the part ahead, the name and one more.
func TestParts(t *testing.T) {
	k, name := key(), []byte("name")
	got, e := hmac.Expand(k, name, 8160)
	if e != api.OK || len(got) != 8160 {
		t.Fatalf("%d bytes, %v", len(got), e)
	}
	var ahead []byte
	for i := range 255 {
		part := got[32*i : 32*i+32]
		if trueMac(k[:], bytes.Join([][]byte{ahead, name, {byte(i + 1)}}, nil)) != api.Sum(part) {
			t.Fatalf("the part %d: %x", i, part)
		}
		ahead = part
	}
}

// P3.2: too few and too many bytes, and nothing beside the error.
func TestExpandWrong(t *testing.T) {
	for n, want := range map[int]api.Errno{
		-1: api.ErrArg, -32: api.ErrArg, math.MinInt: api.ErrArg,
		8161: api.ErrLong, 8192: api.ErrLong, math.MaxInt32: api.ErrLong, math.MaxInt: api.ErrLong,
	} {
		for _, name := range [][]byte{nil, {}, {1}, text(70)} {
			if got, e := hmac.Expand(key(), name, n); e != want || len(got) != 0 {
				t.Errorf("Expand of %d bytes: %x %v, want %v", n, got, e, want)
			}
		}
	}
	if got, e := hmac.Expand(api.Key{}, nil, 0); e != api.OK || len(got) != 0 {
		t.Errorf("Expand of 0 bytes: %x %v", got, e)
	}
}

// P3.2: Derive is the first part of the stream of the name and the number behind it.
func TestDerive(t *testing.T) {
	for _, name := range []string{"", "one", "two", "check", string(text(100)), "\x00\xff"} {
		for _, number := range []uint64{0, 1, 258, 1 << 32, math.MaxUint64} {
			whole := append([]byte(name), octet.Put(number)...)
			if got, want := hmac.Derive(key(), name, number), trueStream(t, key(), whole, 32); !bytes.Equal(got[:], want) {
				t.Errorf("Derive of %q and %d: %x, want %x", name, number, got, want)
			}
		}
	}
	if hmac.Derive(key(), "one", 1) == hmac.Derive(key(), "two", 1) || hmac.Derive(key(), "one", 1) == hmac.Derive(key(), "one", 2) || hmac.Derive(key(), "one", 1) == hmac.Derive(api.Key{}, "one", 1) {
		t.Error("unlike names, numbers or keys have one key")
	}
}

// P3.4: fewer bytes of a stream are a beginning of more.
func TestBeginnings(t *testing.T) {
	for _, name := range [][]byte{nil, []byte("name")} {
		whole, _ := hmac.Expand(key(), name, 8160)
		for n := 0; n <= 8160; n += 1 + n/40 {
			if got, e := hmac.Expand(key(), name, n); e != api.OK || !bytes.Equal(got, whole[:n]) {
				t.Errorf("%d bytes are no beginning of more: %v", n, e)
			}
		}
	}
}

// DOC, rules 4 and 5: nothing that is handed in is changed, what lies behind it is left alone, and what is handed out is new.
func TestAllIsLeftAlone(t *testing.T) {
	all := text(300)
	was := bytes.Clone(all)
	k, b := all[:40], all[50:90]
	if hmac.Mac(k, b) != trueMac(was[:40], was[50:90]) || hmac.Mac(all[:65], b) != trueMac(was[:65], was[50:90]) {
		t.Error("a mark of what has more behind it")
	}
	one, _ := hmac.Expand(key(), b, 100)
	hmac.Extract(k, b)
	hmac.Right(k, b, all[100:132])
	if !bytes.Equal(all, was) {
		t.Error("a text was changed")
	}
	clear(one)
	two, _ := hmac.Expand(key(), b, 100)
	if !bytes.Equal(two, trueStream(t, key(), was[50:90], 100)) {
		t.Error("what was handed out is not new")
	}
}
