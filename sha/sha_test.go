package sha_test

import (
	"bytes"
	"crypto/sha256"
	"encoding/hex"
	"testing"

	"casemate/api"
	"casemate/sha"
)

// text is n bytes that are not all alike.
func text(n int) []byte {
	b := make([]byte, n)
	v := uint32(n) + 1
	for i := range b {
		v = v*1664525 + 1013904223
		b[i] = byte(v >> 24)
	}
	return b
}

// truth is the sum as another program makes it.
func truth(b []byte) api.Sum {
	return sha256.Sum256(b)
}

// P2.1: sums that were published, whatever this program or its tests think.
func TestKnown(t *testing.T) {
	for _, c := range []struct{ text, want string }{
		{"", "e3b0c44298fc1c149afbf4c8996fb92427ae41e4649b934ca495991b7852b855"},
		{"abc", "ba7816bf8f01cfea414140de5dae2223b00361a396177a9cb410ff61f20015ad"},
		{"abcdbcdecdefdefgefghfghighijhijkijkljklmklmnlmnomnopnopq", "248d6a61d20638b8e5c026930c3e6039a33ce45964ff2167f6ecedd419db06c1"},
		{string(bytes.Repeat([]byte("a"), 1000000)), "cdc76e5c9914fb9281a1c7e284d73e67f1809a48a497200e046d39ccc7112cd0"},
	} {
		if s := sha.Sum([]byte(c.text)); hex.EncodeToString(s[:]) != c.want {
			t.Errorf("a text of %d bytes: %x, want %s", len(c.text), s, c.want)
		}
	}
	if sha.Sum(nil) != sha.Sum([]byte{}) || sha.Sum(nil) != truth(nil) {
		t.Error("nothing has another sum than an empty text")
	}
}

// P2.1: all lengths around the ends of blocks, where the filling differs.
func TestAllLengths(t *testing.T) {
	for n := range 520 {
		b := text(n)
		if s := sha.Sum(b); s != truth(b) {
			t.Errorf("a text of %d bytes: %x", n, s)
		}
		same := bytes.Repeat([]byte{255}, n)
		if s := sha.Sum(same); s != truth(same) {
			t.Errorf("%d bytes 255: %x", n, s)
		}
	}
	for _, n := range []int{4095, 4096, api.MaxText - 1, api.MaxText, api.MaxText + 1} {
		b := text(n)
		if s := sha.Sum(b); s != truth(b) {
			t.Errorf("a text of %d bytes: %x", n, s)
		}
	}
}

// P2.1: Both of no texts, of one, of empty ones, and of many.
func TestBoth(t *testing.T) {
	if sha.Both() != truth(nil) || sha.Both(nil) != truth(nil) || sha.Both(nil, []byte{}, nil) != truth(nil) {
		t.Error("Both of nothing")
	}
	a, b, c := text(60), text(70), text(3)
	if sha.Both(a) != truth(a) {
		t.Error("Both of one")
	}
	if sha.Both(a, b, c) != truth(bytes.Join([][]byte{a, b, c}, nil)) {
		t.Error("Both of three")
	}
	if sha.Both(a, nil, b, []byte{}, c) != sha.Both(a, b, c) {
		t.Error("empty texts between change the sum")
	}
	if sha.Both(a, b) == sha.Both(b, a) {
		t.Error("the order of texts does not count")
	}
	var l [][]byte
	for _, x := range text(200) {
		l = append(l, []byte{x})
	}
	if sha.Both(l...) != truth(text(200)) {
		t.Error("Both of many")
	}
}

func wantSum(t *testing.T, h *sha.Hash, want api.Sum) {
	t.Helper()
	if s, e := h.Sum(); e != api.OK || s != want {
		t.Errorf("Sum: %x %v, want %x", s, e, want)
	}
}

func write(t *testing.T, h *sha.Hash, b []byte) {
	t.Helper()
	if e := h.Write(b); e != api.OK {
		t.Errorf("Write: %v", e)
	}
}

// P2.2: a hash is of the empty text at first, and may be written on behind each Sum.
func TestHash(t *testing.T) {
	h := sha.New()
	wantSum(t, h, truth(nil))
	b := text(300)
	for i := range b {
		write(t, h, b[i:i+1])
		wantSum(t, h, truth(b[:i+1]))
		write(t, h, nil)
		write(t, h, []byte{})
		wantSum(t, h, truth(b[:i+1]))
	}
	write(t, h, b)
	wantSum(t, h, truth(append(b, b...)))
	other := sha.New()
	wantSum(t, other, truth(nil))
}

// P2.2: nil, and a hash that no call made.
func TestHashOfNone(t *testing.T) {
	var none *sha.Hash
	for _, h := range []*sha.Hash{none, {}} {
		for _, b := range [][]byte{nil, {}, {1}, text(100)} {
			if e := h.Write(b); e != api.ErrNil {
				t.Errorf("Write: %v", e)
			}
			if s, e := h.Sum(); e != api.ErrNil || s != (api.Sum{}) {
				t.Errorf("Sum: %x %v", s, e)
			}
		}
	}
}

// P2.3: all ways to cut a text in three have its sum, with and without asking in between.
func TestPieces(t *testing.T) {
	b := text(150)
	want := truth(b)
	for i := 0; i <= len(b); i += 3 {
		for j := i; j <= len(b); j++ {
			quiet, asked := sha.New(), sha.New()
			for _, piece := range [][]byte{b[:i], b[i:j], b[j:]} {
				write(t, quiet, piece)
				write(t, asked, piece)
				asked.Sum()
				asked.Sum()
			}
			wantSum(t, quiet, want)
			wantSum(t, asked, want)
			if sha.Both(b[:i], b[i:j], b[j:]) != want {
				t.Fatalf("Both, cut at %d and %d", i, j)
			}
		}
	}
}

// P2.3: pieces of many blocks, behind a block that is begun.
func TestLongPieces(t *testing.T) {
	b := text(5000)
	for _, n := range []int{1, 63, 64, 65, 127, 128, 129, 1000, 4999} {
		h := sha.New()
		for at := 0; at < len(b); at += n {
			write(t, h, b[at:min(at+n, len(b))])
		}
		wantSum(t, h, truth(b))
	}
}

// DOC, rules 4 and 5: a text is neither kept nor changed, nor is what lies behind it looked at.
func TestTextIsLeftAlone(t *testing.T) {
	all := text(200)
	was := bytes.Clone(all)
	h := sha.New()
	write(t, h, all[:100])
	if sha.Sum(all[:100]) != truth(was[:100]) || sha.Both(all[:100], all[:100]) != truth(append(was[:100:100], was[:100]...)) {
		t.Error("a sum of what has more behind it")
	}
	if !bytes.Equal(all, was) {
		t.Error("a text was changed")
	}
	clear(all)
	wantSum(t, h, truth(was[:100]))
}
