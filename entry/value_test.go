package entry_test

import (
	"encoding/binary"
	"math"
	"math/rand/v2"
	"testing"

	"casemate/api"
	"casemate/entry"
)

// kind is how things of one kind are written and read.
type kind[T comparable] struct {
	name  string
	write func(T) ([44]byte, api.Errno)
	read  func([44]byte) (T, api.Errno)
	hand  func(T) [44]byte // puts the value together in another way, also of things that may not be
	size  int              // of all fields
	some  []T              // unlike things that may be
	none  []T              // things that may not be
}

// number is a number's bytes, in so many of them.
func number(n uint64, width int) []byte {
	return binary.BigEndian.AppendUint64(nil, n)[8-width:]
}

// laid is bytes, one behind the other, in a value.
func laid(parts ...[]byte) [44]byte {
	var all []byte
	for _, part := range parts {
		all = append(all, part...)
	}
	return [44]byte(append(all, make([]byte, 44-len(all))...))
}

// rising is a sum all bytes of which are unlike, and none is 0.
func rising(from byte) api.Sum {
	var s api.Sum
	for i := range s {
		s[i] = from + byte(i)
	}
	return s
}

func numbers() []uint64 {
	return []uint64{0, 1, 2, 255, 256, 1<<32 - 1, 1 << 32, 0x0102030405060708, 1 << 63, math.MaxUint64 - 1, math.MaxUint64}
}

// references are unlike references, the zero one ahead.
func references() []api.Ref {
	l := []api.Ref{{}, {Sector: 0x01020304, Sum: rising(9)}, {Sector: 1}, {Sector: 1 << 31}, {Sector: math.MaxUint32}}
	for i := range 32 {
		r := api.Ref{}
		r.Sum[i] = 1
		l = append(l, r)
	}
	return l
}

func counts() kind[uint64] {
	return kind[uint64]{
		name:  "a count",
		write: func(n uint64) ([44]byte, api.Errno) { return entry.WriteCount(n), api.OK },
		read:  entry.ReadCount,
		hand:  func(n uint64) [44]byte { return laid(number(n, 8)) },
		size:  8,
		some:  numbers(),
	}
}

func volumes() kind[entry.Volume] {
	k := kind[entry.Volume]{
		name:  "a volume",
		write: entry.WriteVolume,
		read:  entry.ReadVolume,
		hand:  func(x entry.Volume) [44]byte { return laid(number(x.Number, 8), number(uint64(x.Blocks), 4)) },
		size:  12,
	}
	for _, n := range numbers() {
		for _, blocks := range []int{1, 2, 128, 255, 256} {
			k.some = append(k.some, entry.Volume{Number: n, Blocks: blocks})
		}
		for _, blocks := range append(outside(), 0, 257, 511, 512) {
			k.none = append(k.none, entry.Volume{Number: n, Blocks: blocks})
		}
	}
	return k
}

func blocks() kind[entry.Block] {
	k := kind[entry.Block]{
		name:  "a block",
		write: func(x entry.Block) ([44]byte, api.Errno) { return entry.WriteBlock(x), api.OK },
		read:  func(v [44]byte) (entry.Block, api.Errno) { return entry.ReadBlock(v), api.OK },
		hand: func(x entry.Block) [44]byte {
			return laid(number(uint64(x.Ref.Sector), 4), x.Ref.Sum[:], number(x.Stamp, 8))
		},
		size: 44,
	}
	for _, r := range references() {
		for _, n := range numbers() {
			k.some = append(k.some, entry.Block{Ref: r, Stamp: n})
		}
	}
	return k
}

func roots() kind[entry.Root] {
	k := kind[entry.Root]{
		name:  "a root",
		write: entry.WriteRoot,
		read:  entry.ReadRoot,
		hand: func(x entry.Root) [44]byte {
			has := []byte{0}
			if x.Has {
				has[0] = 1
			}
			return laid(has, number(uint64(x.Ref.Sector), 4), x.Ref.Sum[:])
		},
		size: 37,
		some: []entry.Root{{}},
	}
	for i, r := range references() {
		k.some = append(k.some, entry.Root{Has: true, Ref: r})
		if i > 0 {
			k.none = append(k.none, entry.Root{Ref: r})
		}
	}
	return k
}

func tenants() kind[entry.Tenant] {
	k := kind[entry.Tenant]{
		name:  "a tenant",
		write: entry.WriteTenant,
		read:  entry.ReadTenant,
		hand: func(x entry.Tenant) [44]byte {
			return laid(x.Slot[:], number(uint64(x.Reserve), 2), number(uint64(x.Quota), 2), number(uint64(x.Copy), 1))
		},
		size: 37,
	}
	for _, limit := range []int{0, 1, 255, 256, 2047, 2048} {
		for _, other := range []int{0, 7, 2048} {
			for which := range 2 {
				k.some = append(k.some, entry.Tenant{Reserve: limit, Quota: other, Copy: which}, entry.Tenant{Slot: rising(7), Reserve: other, Quota: limit, Copy: which})
			}
		}
	}
	for _, wrong := range append(outside(), 2049, 4096, 65535) {
		k.none = append(k.none, entry.Tenant{Reserve: wrong}, entry.Tenant{Quota: wrong}, entry.Tenant{Reserve: wrong, Quota: wrong}, entry.Tenant{Copy: wrong})
	}
	k.none = append(k.none, entry.Tenant{Copy: 2}, entry.Tenant{Copy: 255}, entry.Tenant{Copy: 256}, entry.Tenant{Copy: 257})
	return k
}

// written is a thing's value, of one that may be.
func (k kind[T]) written(t *testing.T, x T) [44]byte {
	t.Helper()
	v, e := k.write(x)
	if e != api.OK || v != k.hand(x) {
		t.Fatalf("%s %v is written as % x, %v, want % x", k.name, x, v, e, k.hand(x))
	}
	return v
}

func (k kind[T]) wantRead(t *testing.T, v [44]byte, want T) {
	t.Helper()
	if x, e := k.read(v); x != want || e != api.OK {
		t.Fatalf("%s: % x is read as %v, %v, want %v", k.name, v, x, e, want)
	}
}

// wantNone fails if a value is taken for one of a thing of that kind.
func (k kind[T]) wantNone(t *testing.T, v [44]byte) {
	t.Helper()
	var none T
	if x, e := k.read(v); x != none || e != api.ErrForm {
		t.Fatalf("%s: % x is read as %v, %v", k.name, v, x, e)
	}
}

// wantKind fails if a kind does not hold what it must. Of a value with another byte it asks whether that may be.
func wantKind[T comparable](t *testing.T, k kind[T], mayBe func(v [44]byte) bool) {
	t.Helper()
	known := map[[44]byte]T{}
	for _, x := range k.some {
		v := k.written(t, x)
		k.wantRead(t, v, x)
		if other, there := known[v]; there && other != x {
			t.Fatalf("%s: %v and %v have the same value", k.name, x, other)
		}
		known[v] = x
		k.wantTurned(t, x, v, mayBe)
	}
	for _, x := range k.none {
		if v, e := k.write(x); v != [44]byte{} || e != api.ErrForm {
			t.Fatalf("%s %v is written as % x, %v", k.name, x, v, e)
		}
		if v := k.hand(x); !mayBe(v) {
			k.wantNone(t, v)
		}
	}
	k.wantNoise(t, mayBe)
}

// wantTurned fails if a value with another byte is read as the same thing, or as one though there is none. Of all places each digit is turned, and some bytes are set.
func (k kind[T]) wantTurned(t *testing.T, x T, v [44]byte, mayBe func(v [44]byte) bool) {
	t.Helper()
	for at := range v {
		right := v[at]
		for _, b := range []byte{right ^ 1, right ^ 2, right ^ 4, right ^ 8, right ^ 16, right ^ 32, right ^ 64, right ^ 128, 0, 1, 2, 9, 255} {
			if v[at] = b; b == right {
				continue
			}
			if at >= k.size || !mayBe(v) {
				k.wantNone(t, v)
				continue
			}
			got, e := k.read(v)
			if e != api.OK || got == x || k.written(t, got) != v {
				t.Fatalf("%s: % x is read as %v, %v, as is %v", k.name, v, got, e, x)
			}
		}
		v[at] = right
	}
}

// wantNoise fails if any bytes are read otherwise than in the one way in which they may be written.
func (k kind[T]) wantNoise(t *testing.T, mayBe func(v [44]byte) bool) {
	t.Helper()
	chance := rand.New(rand.NewPCG(23, uint64(k.size)))
	found := 0
	for range 20000 {
		var v [44]byte
		for at := range k.size {
			if v[at] = byte(chance.Uint32()); chance.IntN(3) > 0 {
				v[at] &= byte(chance.Uint32()) & byte(chance.Uint32()) & 9
			}
		}
		if k.size < len(v) && chance.IntN(4) == 0 {
			v[k.size+chance.IntN(len(v)-k.size)]++
			k.wantNone(t, v)
			continue
		}
		if !mayBe(v) {
			k.wantNone(t, v)
			continue
		}
		found++
		x, e := k.read(v)
		if e != api.OK || k.written(t, x) != v {
			t.Fatalf("%s: % x is read as %v, %v", k.name, v, x, e)
		}
	}
	if found < 100 {
		t.Errorf("%s: only %d values were some", k.name, found)
	}
}

// limit is a number of two bytes in a value.
func limit(v [44]byte, at int) int {
	return int(binary.BigEndian.Uint16(v[at:]))
}

// P23.2, P23.3: what each value may have in its fields, told by its bytes.
func TestValues(t *testing.T) {
	wantKind(t, counts(), func([44]byte) bool { return true })
	wantKind(t, volumes(), func(v [44]byte) bool {
		n := binary.BigEndian.Uint32(v[8:])
		return n >= 1 && n <= 256
	})
	wantKind(t, blocks(), func([44]byte) bool { return true })
	wantKind(t, roots(), func(v [44]byte) bool { return v[0] == 1 || v == [44]byte{} })
	wantKind(t, tenants(), func(v [44]byte) bool {
		return limit(v, 32) <= 2048 && limit(v, 34) <= 2048 && v[36] <= 1
	})
}

// P23.2: some values byte by byte.
func TestExamples(t *testing.T) {
	if v := entry.WriteCount(258); v != [44]byte{6: 1, 7: 2} {
		t.Errorf("WriteCount: % x", v)
	}
	if v, e := entry.WriteVolume(entry.Volume{Number: 3, Blocks: 256}); v != [44]byte{7: 3, 10: 1} || e != api.OK {
		t.Errorf("WriteVolume: % x, %v", v, e)
	}
	if v := entry.WriteBlock(entry.Block{Ref: api.Ref{Sector: 5, Sum: api.Sum{6, 31: 7}}, Stamp: 8}); v != [44]byte{3: 5, 4: 6, 35: 7, 43: 8} {
		t.Errorf("WriteBlock: % x", v)
	}
	if v, e := entry.WriteRoot(entry.Root{Has: true, Ref: api.Ref{Sector: 5, Sum: api.Sum{6, 31: 7}}}); v != [44]byte{1, 4: 5, 5: 6, 36: 7} || e != api.OK {
		t.Errorf("WriteRoot: % x, %v", v, e)
	}
	if v, e := entry.WriteTenant(entry.Tenant{Slot: api.Sum{6, 31: 7}, Reserve: 1, Quota: 2048, Copy: 1}); v != [44]byte{0: 6, 31: 7, 33: 1, 34: 8, 36: 1} || e != api.OK {
		t.Errorf("WriteTenant: % x, %v", v, e)
	}
}

// P23.2: noughts are the count 0, a block and no root, but no volume; of a tenant they are one that may have nothing.
func TestNoughts(t *testing.T) {
	counts().wantRead(t, [44]byte{}, 0)
	blocks().wantRead(t, [44]byte{}, entry.Block{})
	roots().wantRead(t, [44]byte{}, entry.Root{})
	tenants().wantRead(t, [44]byte{}, entry.Tenant{})
	volumes().wantNone(t, [44]byte{})
	roots().wantRead(t, [44]byte{1}, entry.Root{Has: true})
	roots().wantNone(t, [44]byte{2})
	roots().wantNone(t, [44]byte{255})
}
