package node_test

import (
	"bytes"
	"encoding/binary"
	"math"
	"math/rand/v2"
	"testing"

	"casemate/api"
	"casemate/node"
)

func written(t *testing.T, n node.Node) []byte {
	t.Helper()
	b, e := node.Write(n)
	if e != api.OK || len(b) != api.Sector {
		t.Fatalf("Write of %v: %d bytes, %v", n, len(b), e)
	}
	return b
}

// wantNone fails if bytes are taken for a node's.
func wantNone(t *testing.T, what string, b []byte) {
	t.Helper()
	if n, e := node.Read(b); e != api.ErrForm || !isZero(n) {
		t.Fatalf("Read of %s: %v, %v", what, n, e)
	}
}

// random is a node that may be, of any keys, values and kids.
func random(chance *rand.Rand) node.Node {
	n := node.Node{Leaf: chance.IntN(2) == 0}
	least, most := edges(n.Leaf)
	count := least + chance.IntN(most-least+1)
	step := uint64(math.MaxUint64) / uint64(count+1) >> chance.IntN(60)
	key := chance.Uint64N(step + 1)
	for range count {
		n.Keys = append(n.Keys, key)
		key += 1 + chance.Uint64N(step+1)/2
		if n.Leaf {
			n.Vals = append(n.Vals, [44]byte(noise(chance, 44)))
			continue
		}
		n.Kids = append(n.Kids, api.Ref{Sector: chance.Uint32(), Sum: api.Sum(noise(chance, 32))})
	}
	return n
}

// noise is so many bytes.
func noise(chance *rand.Rand, count int) []byte {
	b := make([]byte, count)
	for i := range b {
		b[i] = byte(chance.Uint32())
	}
	return b
}

// P13.1: the bytes of both kinds, of each number of keys, put together by hand.
func TestWrite(t *testing.T) {
	for _, leaf := range []bool{true, false} {
		least, most := edges(leaf)
		for count := least; count <= most; count++ {
			n := ofKind(leaf, tens(count)...)
			n.Keys[count-1] = 0x0102030405060708
			want := []byte{2, byte(count), 0, 0, 0, 0, 0, 0}
			if leaf {
				want[0] = 1
			}
			for i, key := range n.Keys {
				want = binary.BigEndian.AppendUint64(want, key)
				if leaf {
					want = append(want, n.Vals[i][:]...)
				} else {
					want = binary.BigEndian.AppendUint32(want, n.Kids[i].Sector)
					want = append(want, n.Kids[i].Sum[:]...)
				}
			}
			want = append(want, make([]byte, api.Sector-len(want))...)
			if b := written(t, n); !bytes.Equal(b, want) {
				t.Errorf("Write of %d keys, a leaf: %v:\n% x, want\n% x", count, leaf, b, want)
			}
		}
	}
}

// P13.1: the document's example.
func TestExample(t *testing.T) {
	b := written(t, leafOf(7))
	if !bytes.Equal(b[:8], []byte{1, 1, 0, 0, 0, 0, 0, 0}) {
		t.Errorf("the front of a leaf of one key: % x", b[:8])
	}
}

// P13.4: nodes go there and back.
func TestThereAndBack(t *testing.T) {
	chance := rand.New(rand.NewPCG(13, 4))
	for range 3000 {
		n := random(chance)
		if !node.Right(n) {
			t.Fatalf("no node: %v", n)
		}
		b := written(t, n)
		kept := bytes.Clone(b)
		back, e := node.Read(b)
		if e != api.OK {
			t.Fatalf("Read: %v", e)
		}
		wantNode(t, "Read", back, n)
		clear(b)
		wantNode(t, "what was read, behind a change of the bytes", back, n)
		if !bytes.Equal(written(t, back), kept) {
			t.Fatalf("a node that was read is written otherwise")
		}
	}
}

// P13.4: in one way alone: bytes with one digit turned are no node's, or those of another node.
func TestReadTurned(t *testing.T) {
	for _, n := range []node.Node{leafOf(tens(1)...), leafOf(tens(5)...), leafOf(tens(9)...), innerOf(tens(2)...), innerOf(tens(11)...)} {
		b := written(t, n)
		others := 0
		for i := range b {
			for digit := range 8 {
				b[i] ^= 1 << digit
				if got, e := node.Read(b); e == api.OK {
					others++
					if node.Same(got, n) || !bytes.Equal(written(t, got), b) {
						t.Fatalf("Read of another byte %d: %v", i, got)
					}
				} else {
					wantNone(t, "turned bytes", b)
				}
				b[i] ^= 1 << digit
			}
		}
		part := 44
		if !n.Leaf {
			part = 36
		}
		if least := 8 * len(n.Keys) * part; others < least {
			t.Errorf("%d of the turned bytes are nodes, at least %d should be", others, least)
		}
	}
}

// P13.1: fronts that no node has.
func TestReadFronts(t *testing.T) {
	for _, leaf := range []bool{true, false} {
		least, most := edges(leaf)
		b := written(t, ofKind(leaf, tens(most)...))
		front := [2]byte(b)
		for _, kind := range []byte{0, 1, 2, 3, 4, 127, 128, 255} {
			for count := range 256 {
				b[0], b[1] = kind, byte(count)
				if [2]byte(b) != front {
					wantNone(t, "another front", b) // of fewer keys there are bytes behind these
				}
			}
		}
		for i := range 6 {
			for _, x := range []byte{1, 2, 128, 255} {
				b := written(t, ofKind(leaf, tens(least)...))
				b[2+i] = x
				wantNone(t, "a byte in the front", b)
			}
		}
	}
}

// P13.1: bytes behind the last key, and keys that do not rise.
func TestReadForms(t *testing.T) {
	for _, leaf := range []bool{true, false} {
		least, most := edges(leaf)
		part := 52
		if !leaf {
			part = 44
		}
		for count := least; count <= most; count++ {
			b := written(t, ofKind(leaf, tens(count)...))
			for i := 8 + count*part; i < api.Sector; i++ {
				b[i] = 1
				wantNone(t, "a byte behind", b)
				b[i] = 0
			}
			for i := 1; i < count; i++ {
				for _, lower := range []uint64{0, 1, 10} {
					n := ofKind(leaf, tens(count)...)
					turned := bytes.Clone(b)
					binary.BigEndian.PutUint64(turned[8+i*part:], n.Keys[i-1]-lower)
					wantNone(t, "keys that do not rise", turned)
				}
			}
		}
	}
	wantNone(t, "noughts", make([]byte, api.Sector))
	wantNone(t, "ones", bytes.Repeat([]byte{1}, api.Sector))
	wantNone(t, "255", bytes.Repeat([]byte{255}, api.Sector))
}

// P13.1: bytes that are cut short, or too long, whatever stands behind.
func TestReadLengths(t *testing.T) {
	for _, n := range []node.Node{leafOf(1), leafOf(tens(9)...), innerOf(1, 2), innerOf(tens(11)...)} {
		b := append(written(t, n), make([]byte, api.Sector)...)
		for length := range b {
			if length == api.Sector {
				continue
			}
			wantNone(t, "another length", b[:length])
		}
		wantNone(t, "two nodes", append(written(t, n), written(t, n)...))
		wantNone(t, "a long text", append(written(t, n), make([]byte, api.MaxText)...))
		if got, e := node.Read(b[:api.Sector]); e != api.OK || !node.Same(got, n) {
			t.Errorf("Read of bytes with others behind: %v, %v", got, e)
		}
	}
	wantNone(t, "nothing", nil)
	wantNone(t, "no bytes", []byte{})
}

// P13.1: any bytes are no node's, or just those that it is written as.
func TestReadNoise(t *testing.T) {
	chance := rand.New(rand.NewPCG(13, 1))
	for range 20000 {
		b := noise(chance, api.Sector)
		if chance.IntN(2) == 0 {
			clear(b[chance.IntN(api.Sector):])
			b[0], b[1] = byte(chance.IntN(4)), byte(chance.IntN(13))
			clear(b[2 : 2+chance.IntN(7)])
		}
		if n, e := node.Read(b); e == api.OK {
			if !bytes.Equal(written(t, n), b) {
				t.Fatalf("Read of % x: %v", b, n)
			}
		} else {
			wantNone(t, "noise", b)
		}
	}
}
