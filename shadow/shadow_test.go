package shadow_test

import (
	"bytes"
	"math"
	"reflect"
	"testing"
	"unsafe"

	"casemate/api"
	"casemate/disk"
	"casemate/hashlog"
	"casemate/node"
	"casemate/sha"
	"casemate/shadow"
)

// laid is a disk of a size that may be.
func laid(t *testing.T, sectors int) *disk.Disk {
	t.Helper()
	d, e := disk.New(sectors)
	if e != api.OK {
		t.Fatalf("disk.New(%d): %v", sectors, e)
	}
	return d
}

// on is a store of some sectors of a disk.
func on(t *testing.T, d *disk.Disk, from, count int, log *hashlog.Log) *shadow.Store {
	t.Helper()
	s, e := shadow.New(d, from, count, log)
	if s == nil || e != api.OK {
		t.Fatalf("New of %d sectors from %d on: %v, %v", count, from, s, e)
	}
	return s
}

// fresh is a store of so many sectors, from 2 on, on a disk with two more behind them.
func fresh(t *testing.T, count int) (*disk.Disk, *shadow.Store) {
	t.Helper()
	d := laid(t, count+4)
	return d, on(t, d, 2, count, hashlog.New())
}

// leaf is a leaf, unlike for each number below 65536.
func leaf(n int) node.Node {
	return node.Node{Leaf: true, Keys: []uint64{uint64(n)}, Vals: [][44]byte{{byte(n), byte(n >> 8), 7}}}
}

// above is a node with these kids.
func above(kids ...api.Ref) node.Node {
	n := node.Node{Kids: kids}
	for i := range kids {
		n.Keys = append(n.Keys, uint64(i))
	}
	return n
}

// bytesOf is a node's bytes.
func bytesOf(t *testing.T, n node.Node) []byte {
	t.Helper()
	b, e := node.Write(n)
	if e != api.OK {
		t.Fatalf("node.Write: %v", e)
	}
	return b
}

func wantCode(t *testing.T, what string, e, want api.Errno) {
	t.Helper()
	if e != want {
		t.Fatalf("%s: %v, want %v", what, e, want)
	}
}

// made makes a node that may be made.
func made(t *testing.T, s *shadow.Store, n node.Node) api.Ref {
	t.Helper()
	r, e := s.Make(n)
	wantCode(t, "Make", e, api.OK)
	return r
}

// held makes a node, and holds it.
func held(t *testing.T, s *shadow.Store, n node.Node) api.Ref {
	t.Helper()
	r := made(t, s, n)
	hold(t, s, r)
	return r
}

func hold(t *testing.T, s *shadow.Store, r api.Ref) {
	t.Helper()
	wantCode(t, "Hold", s.Hold(r), api.OK)
}

func drop(t *testing.T, s *shadow.Store, r api.Ref) {
	t.Helper()
	wantCode(t, "Drop", s.Drop(r), api.OK)
}

func wantUsed(t *testing.T, s *shadow.Store, want int) {
	t.Helper()
	if s.Used() != want {
		t.Fatalf("Used: %d, want %d", s.Used(), want)
	}
}

func wantSweep(t *testing.T, s *shadow.Store, want int) {
	t.Helper()
	if got := s.Sweep(); got != want {
		t.Fatalf("Sweep: %d, want %d", got, want)
	}
}

// wantKept fails if a store does not keep nodes at just these sectors.
func wantKept(t *testing.T, s *shadow.Store, sectors ...uint32) {
	t.Helper()
	wantUsed(t, s, len(sectors))
	for _, sector := range sectors {
		if !s.Has(sector) {
			t.Fatalf("Has(%d): false", sector)
		}
	}
}

func wantLoad(t *testing.T, s *shadow.Store, r api.Ref, want node.Node) {
	t.Helper()
	if n, e := s.Load(r); e != api.OK || !node.Same(n, want) {
		t.Fatalf("Load of %d: %v, %v, want %v", r.Sector, n, e, want)
	}
}

func wantNoLoad(t *testing.T, s *shadow.Store, r api.Ref, want api.Errno) {
	t.Helper()
	if n, e := s.Load(r); e != want || !node.Same(n, node.Node{}) {
		t.Fatalf("Load of %d: %v, %v, want %v", r.Sector, n, e, want)
	}
}

func wantNoMake(t *testing.T, s *shadow.Store, n node.Node, want api.Errno) {
	t.Helper()
	if r, e := s.Make(n); e != want || r != (api.Ref{}) {
		t.Fatalf("Make: %v, %v, want %v", r, e, want)
	}
}

// turned is a reference with another sum.
func turned(r api.Ref) api.Ref {
	r.Sum[31] ^= 1
	return r
}

// elsewhere is a reference to another sector.
func elsewhere(r api.Ref, sector uint32) api.Ref {
	r.Sector = sector
	return r
}

// wrongNodes is nodes that may not be, with kids at a sector.
func wrongNodes(r api.Ref) []node.Node {
	many := leaf(0)
	for i := range 9 {
		many = node.Put(many, uint64(i+1), [44]byte{})
	}
	full := make([]api.Ref, api.MaxKids+1)
	for i := range full {
		full[i] = r
	}
	mixed, few, twice := above(r, r), above(r, r), above(r, r)
	mixed.Vals = make([][44]byte, 2)
	few.Kids = few.Kids[:1]
	twice.Keys[1] = 0
	return []node.Node{{}, {Leaf: true}, many, above(r), above(full...), mixed, few, twice, {Keys: []uint64{1, 2}}}
}

// P14.1: sectors that a store may stand on, and those that it may not.
func TestNew(t *testing.T) {
	log := hashlog.New()
	for _, size := range []int{1, 2, 64, api.MaxSectors} {
		d := laid(t, size)
		for _, c := range [][2]int{{0, 1}, {0, size}, {size - 1, 1}, {size / 2, size - size/2}} {
			s := on(t, d, c[0], c[1], log)
			wantUsed(t, s, 0)
			if s.Has(0) || s.Has(uint32(c[0])) || s.Clash() {
				t.Errorf("a store of %d sectors from %d on keeps something", c[1], c[0])
			}
			wantSweep(t, s, 0)
		}
		for _, c := range [][2]int{
			{-1, 1}, {-1, 2}, {math.MinInt, 1}, {math.MinInt, math.MaxInt}, {math.MinInt32, size}, {-size, 2 * size},
			{0, 0}, {0, -1}, {0, math.MinInt}, {1, math.MinInt}, {size, 0}, {size, -1},
			{0, size + 1}, {1, size}, {size, 1}, {size - 1, 2}, {size + 1, 1}, {0, math.MaxInt}, {1, math.MaxInt}, {math.MaxInt, 1}, {math.MaxInt, math.MaxInt}, {math.MaxInt, math.MinInt}, {math.MaxInt32, 1}, {math.MaxUint32, 2},
		} {
			if s, e := shadow.New(d, c[0], c[1], log); s != nil || e != api.ErrArg {
				t.Errorf("New of %d sectors of %d from %d on: %v, %v", c[1], size, c[0], s, e)
			}
		}
		if d.Calls() != 0 || log.Count() != 0 {
			t.Error("New wrote or summed something")
		}
	}
}

// P14.1: disks that are none, ahead of sectors that may not be; logs that are none are none.
func TestNewOfNone(t *testing.T) {
	for _, d := range []*disk.Disk{nil, {}} {
		for _, c := range [][2]int{{0, 1}, {0, 0}, {-1, 1}, {0, -1}, {math.MaxInt, math.MaxInt}} {
			if s, e := shadow.New(d, c[0], c[1], hashlog.New()); s != nil || e != api.ErrNil {
				t.Errorf("New of %d sectors from %d on, of no disk: %v, %v", c[1], c[0], s, e)
			}
		}
	}
	for _, log := range []*hashlog.Log{nil, {}} {
		s := on(t, laid(t, 9), 3, 4, log)
		r := held(t, s, leaf(1))
		if r.Sum != sha.Sum(bytesOf(t, leaf(1))) || s.Clash() {
			t.Error("a store without a log sums otherwise, or has a clash")
		}
		wantLoad(t, s, r, leaf(1))
		wantNoLoad(t, s, turned(r), api.ErrIntegrity)
		root := made(t, s, above(r, r))
		other := on(t, laid(t, 9), 3, 4, log)
		wantCode(t, "Adopt of another disk's", other.Adopt(root), api.ErrIntegrity)
		drop(t, s, r)
		wantSweep(t, s, 2)
	}
}

// P14.1: of nil, or a store that no call made.
func TestNoStore(t *testing.T) {
	for _, s := range []*shadow.Store{nil, {}, new(shadow.Store)} {
		for range 2 {
			for _, r := range []api.Ref{{}, {Sector: 1}, {Sector: math.MaxUint32, Sum: api.Sum{1}}} {
				wantNoMake(t, s, leaf(1), api.ErrNil)
				wantNoMake(t, s, above(r, r), api.ErrNil)
				wantNoLoad(t, s, r, api.ErrNil)
				wantCode(t, "Hold", s.Hold(r), api.ErrNil)
				wantCode(t, "Drop", s.Drop(r), api.ErrNil)
				wantCode(t, "Adopt", s.Adopt(r), api.ErrNil)
				if s.Has(r.Sector) {
					t.Error("Has: true")
				}
				for _, n := range wrongNodes(r) {
					wantNoMake(t, s, n, api.ErrNil)
				}
			}
			wantUsed(t, s, 0)
			wantSweep(t, s, 0)
			if s.Clash() {
				t.Error("Clash: true")
			}
		}
	}
}

// inside is a field of a log, which no call of it lays open.
func inside[T any](log *hashlog.Log, name string) *T {
	f := reflect.ValueOf(log).Elem().FieldByName(name)
	return (*T)(unsafe.Pointer(f.UnsafeAddr()))
}

// P14.1: a clash of the log. True ones are not known, so that one is laid into the log's own memory.
func TestClash(t *testing.T) {
	log := hashlog.New()
	d := laid(t, 9)
	s, other := on(t, d, 0, 4, log), on(t, d, 4, 5, hashlog.New())
	r := made(t, s, leaf(1))
	made(t, other, leaf(1))
	if s.Clash() || other.Clash() {
		t.Fatal("a clash of one text")
	}
	texts := *inside[map[api.Sum][][]byte](log, "texts")
	texts[r.Sum] = append(texts[r.Sum], []byte("forged"))
	*inside[api.Sum](log, "clash") = r.Sum
	*inside[bool](log, "clashed") = true
	if _, _, ok := log.Clash(); !ok {
		t.Fatal("the clash was not laid")
	}
	if !s.Clash() || other.Clash() {
		t.Errorf("Clash: %v, of another log %v", s.Clash(), other.Clash())
	}
}

// P14.2: nodes stand one behind the other, as their bytes, and the references tell where, and their sums.
func TestMake(t *testing.T) {
	log := hashlog.New()
	d := laid(t, 20)
	s := on(t, d, 5, 10, log)
	var nodes []node.Node
	var refs []api.Ref
	for i := range 10 {
		n := leaf(i)
		if i > 5 {
			n = above(refs[i-6], refs[i-1], refs[2])
		}
		r := made(t, s, n)
		nodes, refs = append(nodes, n), append(refs, r)
		if r.Sector != uint32(5+i) || r.Sum != sha.Sum(bytesOf(t, n)) {
			t.Fatalf("Make of the node %d: %v", i, r)
		}
		if b, e := d.Read(r.Sector); e != api.OK || !bytes.Equal(b, bytesOf(t, n)) || !log.Has(b) {
			t.Fatalf("the node %d is not on the disk, or not in the log", i)
		}
		wantUsed(t, s, i+1)
		if d.Calls() != i+1 || log.Count() != i+1 {
			t.Fatalf("%d nodes: %d calls, %d texts", i+1, d.Calls(), log.Count())
		}
	}
	for i, r := range refs {
		wantLoad(t, s, r, nodes[i])
	}
	wantKept(t, s, 5, 6, 7, 8, 9, 10, 11, 12, 13, 14)
	for _, sector := range []uint32{0, 4, 15, 19, 20, math.MaxUint32} {
		if s.Has(sector) {
			t.Errorf("Has(%d): true", sector)
		}
	}
	wantNoMake(t, s, leaf(99), api.ErrFull)
}

// P14.2: the document's example, and loose ones are gone behind Sweep.
func TestExample(t *testing.T) {
	_, s := fresh(t, 5)
	made(t, s, leaf(1))
	wantUsed(t, s, 1)
	wantSweep(t, s, 1)
	wantUsed(t, s, 0)
}

// P14.2: equal nodes stand in sectors of their own.
func TestMakeTwice(t *testing.T) {
	_, s := fresh(t, 5)
	a, b := made(t, s, leaf(1)), made(t, s, leaf(1))
	if a.Sum != b.Sum || a.Sector != 2 || b.Sector != 3 {
		t.Errorf("the same node twice: %v and %v", a, b)
	}
	hold(t, s, b)
	wantSweep(t, s, 1)
	wantKept(t, s, 3)
}

// P14.2: what is made is a copy; what is loaded is new memory.
func TestCopies(t *testing.T) {
	_, s := fresh(t, 5)
	r := made(t, s, leaf(1))
	n := above(r, r)
	top := made(t, s, n)
	n.Kids[0], n.Keys[1] = api.Ref{}, 99
	wantLoad(t, s, top, above(r, r))
	got, _ := s.Load(top)
	got.Kids[1], got.Keys[0] = api.Ref{}, 99
	wantLoad(t, s, top, above(r, r))
	drop(t, s, r)
	drop(t, s, r)
	wantKept(t, s, top.Sector)
}

// P14.2: the first sector at which no node is kept, whatever stood there.
func TestMakeFirstFree(t *testing.T) {
	_, s := fresh(t, 6)
	var refs []api.Ref
	for i := range 6 {
		refs = append(refs, held(t, s, leaf(i)))
	}
	for _, i := range []int{4, 1, 3} {
		drop(t, s, refs[i])
	}
	for i, at := range []int{1, 3, 4} {
		if r := held(t, s, leaf(10+i)); r.Sector != refs[at].Sector {
			t.Fatalf("made at %d, want %d", r.Sector, refs[at].Sector)
		}
		wantNoLoad(t, s, refs[at], api.ErrIntegrity)
	}
	wantNoMake(t, s, leaf(20), api.ErrFull)
	drop(t, s, refs[0])
	if r := made(t, s, leaf(21)); r.Sector != 2 {
		t.Fatalf("made at %d, want 2", r.Sector)
	}
	for _, i := range []int{2, 5} {
		wantLoad(t, s, refs[i], leaf(i))
	}
}

// P14.2: nodes that may not be, ahead of kids that are not kept, of full stores and of disks that are down.
func TestMakeWrong(t *testing.T) {
	d, s := fresh(t, 3)
	r := held(t, s, leaf(1))
	gone := api.Ref{Sector: 4}
	wrong := func(want ...api.Errno) {
		t.Helper()
		for _, n := range append(wrongNodes(r), wrongNodes(gone)...) {
			wantNoMake(t, s, n, api.ErrForm)
		}
		for _, at := range []uint32{0, 1, 4, 5, 6, 7, 258, math.MaxUint32} {
			for _, n := range []node.Node{above(elsewhere(r, at), r), above(r, elsewhere(r, at)), above(r, r, r, elsewhere(r, at), r)} {
				wantNoMake(t, s, n, api.ErrState)
			}
		}
		for _, e := range want {
			wantNoMake(t, s, leaf(2), e)
			wantNoMake(t, s, above(r, r), e)
		}
	}
	wrong()
	wantKept(t, s, 2)
	wantCode(t, "Fail", d.Fail(0), api.OK)
	wantNoMake(t, s, leaf(2), api.ErrDown)
	wrong(api.ErrDown)
	wantKept(t, s, 2)
	wantCode(t, "Crash", d.Crash([]byte{255}), api.OK)
	drop(t, s, r) // the refused nodes hold nothing
	wantUsed(t, s, 0)

	r = held(t, s, leaf(1))
	held(t, s, above(r, r))
	if top := held(t, s, leaf(3)); top.Sector != 4 {
		t.Fatalf("made at %d", top.Sector)
	}
	full := func() {
		t.Helper()
		for _, n := range wrongNodes(r) {
			wantNoMake(t, s, n, api.ErrForm)
		}
		wantNoMake(t, s, above(r, elsewhere(r, 5)), api.ErrState)
		wantNoMake(t, s, leaf(2), api.ErrFull)
		wantNoMake(t, s, above(r, r), api.ErrFull)
	}
	full()
	wantCode(t, "Fail", d.Fail(0), api.OK)
	wantCode(t, "Flush", d.Flush(), api.ErrDown)
	full()
	wantKept(t, s, 2, 3, 4)
}

// P14.2: of a kid the sector alone is asked.
func TestMakeOtherSums(t *testing.T) {
	_, s := fresh(t, 5)
	r := made(t, s, leaf(1))
	top := held(t, s, above(turned(r), api.Ref{Sector: r.Sector}))
	wantSweep(t, s, 0)
	wantLoad(t, s, top, above(turned(r), api.Ref{Sector: r.Sector}))
	wantNoLoad(t, s, turned(r), api.ErrIntegrity)
	drop(t, s, top)
	wantUsed(t, s, 0)
}

// P14.2: a store of all sectors that there may be, till it is full.
func TestMakeAll(t *testing.T) {
	s := on(t, laid(t, api.MaxSectors), 0, api.MaxSectors, nil)
	for i := range api.MaxSectors {
		if r := made(t, s, leaf(i)); r.Sector != uint32(i) {
			t.Fatalf("the node %d is at %d", i, r.Sector)
		}
	}
	wantNoMake(t, s, leaf(7), api.ErrFull)
	wantSweep(t, s, api.MaxSectors)
}

// P14.3: references to sectors that are not the store's, ahead of a disk that is down, ahead of sums.
func TestLoadWrong(t *testing.T) {
	d, s := fresh(t, 3)
	before := on(t, d, 0, 2, nil)
	made(t, before, leaf(8))
	other := made(t, before, leaf(9))
	wantLoad(t, before, other, leaf(9))
	r := made(t, s, leaf(1))
	wrong := func(e api.Errno) {
		t.Helper()
		for _, at := range []uint32{0, 1, 5, 6, 7, 256, 65536, 65538, 1 << 31, math.MaxUint32} {
			wantNoLoad(t, s, elsewhere(r, at), api.ErrArg)
		}
		wantNoLoad(t, s, other, api.ErrArg)
		wantNoLoad(t, s, turned(r), e)
		wantNoLoad(t, s, elsewhere(r, 3), e)
		wantNoLoad(t, s, api.Ref{Sector: 4}, e)
		wantNoLoad(t, s, api.Ref{Sector: 2}, e)
	}
	wrong(api.ErrIntegrity)
	for i := range r.Sum {
		x := r
		x.Sum[i] ^= 1 << (i % 8)
		wantNoLoad(t, s, x, api.ErrIntegrity)
	}
	wantLoad(t, s, r, leaf(1))
	wantCode(t, "Fail", d.Fail(0), api.OK)
	wantCode(t, "Flush", d.Flush(), api.ErrDown)
	wrong(api.ErrDown)
	wantNoLoad(t, s, r, api.ErrDown)
}

// P14.3: what stands there is no node, though it has the sum.
func TestLoadNoNode(t *testing.T) {
	d, s := fresh(t, 3)
	made(t, s, leaf(1))
	long := bytesOf(t, leaf(1))
	long[api.Sector-1] = 1
	for _, b := range [][]byte{make([]byte, api.Sector), bytes.Repeat([]byte{1}, api.Sector), long} {
		wantCode(t, "Tamper", d.Tamper(2, b), api.OK)
		wantNoLoad(t, s, api.Ref{Sector: 2, Sum: sha.Sum(b)}, api.ErrIntegrity)
		wantCode(t, "Adopt", on(t, d, 2, 3, nil).Adopt(api.Ref{Sector: 2, Sum: sha.Sum(b)}), api.ErrIntegrity)
	}
	wantNoLoad(t, s, api.Ref{Sector: 4, Sum: sha.Sum(make([]byte, api.Sector))}, api.ErrIntegrity)
}

// P14.3: what stands there is summed by the log, whether it is as it was or not; a sector that is not the store's is not.
func TestLoadSums(t *testing.T) {
	log := hashlog.New()
	d := laid(t, 6)
	s := on(t, d, 1, 4, log)
	r := made(t, s, leaf(1))
	noise := bytes.Repeat([]byte{9}, api.Sector)
	wantCode(t, "Tamper", d.Tamper(3, noise), api.OK)
	wantCode(t, "Tamper", d.Tamper(5, bytes.Repeat([]byte{8}, api.Sector)), api.OK)
	wantNoLoad(t, s, elsewhere(r, 3), api.ErrIntegrity)
	if log.Count() != 2 || !log.Has(noise) {
		t.Errorf("behind Load the log has %d texts", log.Count())
	}
	wantNoLoad(t, s, elsewhere(r, 5), api.ErrArg)
	wantLoad(t, s, r, leaf(1))
	if log.Count() != 2 {
		t.Errorf("the log has %d texts", log.Count())
	}
}

// P14.3: what is not kept any more is loaded, as long as nothing was made there.
func TestLoadOfGone(t *testing.T) {
	_, s := fresh(t, 3)
	r := made(t, s, leaf(1))
	wantSweep(t, s, 1)
	wantLoad(t, s, r, leaf(1))
	made(t, s, leaf(2))
	wantNoLoad(t, s, r, api.ErrIntegrity)
}

// P14.3: nodes that are not kept are neither held nor dropped; those that are loose are not dropped. The sum is not asked.
func TestHoldAndDrop(t *testing.T) {
	_, s := fresh(t, 4)
	r := made(t, s, leaf(1))
	for _, at := range []uint32{0, 1, 3, 4, 5, 6, 8, 258, 65538, math.MaxUint32} {
		wantCode(t, "Hold", s.Hold(elsewhere(r, at)), api.ErrState)
		wantCode(t, "Drop", s.Drop(elsewhere(r, at)), api.ErrState)
	}
	wantCode(t, "Drop of what is loose", s.Drop(r), api.ErrState)
	wantKept(t, s, r.Sector)
	for times := range 5 {
		for range times + 1 {
			hold(t, s, turned(r))
		}
		for range times {
			drop(t, s, turned(r))
			wantSweep(t, s, 0)
			wantKept(t, s, r.Sector)
		}
		drop(t, s, r)
		wantUsed(t, s, 0)
		wantCode(t, "Drop of what is gone", s.Drop(r), api.ErrState)
		wantCode(t, "Hold of what is gone", s.Hold(r), api.ErrState)
		r = made(t, s, leaf(1))
	}
}

// P14.2, P14.3: kids are held by nodes, once for each time that these have them, and go with the last one.
func TestKids(t *testing.T) {
	_, s := fresh(t, 12)
	one, two, three := made(t, s, leaf(1)), made(t, s, leaf(2)), made(t, s, leaf(3))
	left := held(t, s, above(one, two, one))
	right := held(t, s, above(two, three))
	top := made(t, s, above(left, right))
	wantSweep(t, s, 1) // the top one, which nobody holds
	top = held(t, s, above(left, right))
	drop(t, s, left)
	drop(t, s, right)
	wantKept(t, s, one.Sector, two.Sector, three.Sector, left.Sector, right.Sector, top.Sector)
	hold(t, s, left)
	drop(t, s, top)
	wantKept(t, s, one.Sector, two.Sector, left.Sector)
	hold(t, s, two)
	drop(t, s, left)
	wantKept(t, s, two.Sector)
	drop(t, s, two)
	wantUsed(t, s, 0)
}

// P14.3: a caller may drop what nodes alone hold. It is gone then, and who takes its place is no kid of these nodes.
func TestDropOfKids(t *testing.T) {
	_, s := fresh(t, 8)
	kid := made(t, s, leaf(1))
	top, other := held(t, s, above(kid, kid)), held(t, s, above(kid, kid))
	for range 3 {
		drop(t, s, kid)
		wantKept(t, s, kid.Sector, top.Sector, other.Sector)
	}
	drop(t, s, kid)
	wantKept(t, s, top.Sector, other.Sector)
	wantCode(t, "Drop", s.Drop(kid), api.ErrState)
	next := held(t, s, leaf(2))
	if next.Sector != kid.Sector {
		t.Fatalf("made at %d", next.Sector)
	}
	drop(t, s, top)
	wantLoad(t, s, next, leaf(2))
	wantKept(t, s, next.Sector, other.Sector)
	drop(t, s, next)
	drop(t, s, other)
	wantUsed(t, s, 0)
}

// P14.3: a kid that callers dropped goes with the first node that has it, and leaves the others.
func TestDropOfSharedKid(t *testing.T) {
	_, s := fresh(t, 8)
	kid := made(t, s, leaf(1))
	hold(t, s, kid)
	one, two := held(t, s, above(kid, kid)), held(t, s, above(kid, kid))
	for range 3 {
		drop(t, s, kid)
	}
	drop(t, s, one)
	wantKept(t, s, two.Sector)
	drop(t, s, two)
	wantUsed(t, s, 0)
}

// P14.3: Sweep frees what is loose, and what that alone held, and tells how many these are.
func TestSweep(t *testing.T) {
	_, s := fresh(t, 20)
	wantSweep(t, s, 0)
	var loose []api.Ref
	for i := range 4 {
		loose = append(loose, made(t, s, leaf(i)))
	}
	hold(t, s, loose[0])
	one := made(t, s, above(loose[0], loose[1]))
	made(t, s, above(one, loose[2]))
	wantUsed(t, s, 6)
	wantSweep(t, s, 5)
	wantKept(t, s, loose[0].Sector)
	wantSweep(t, s, 0)
	made(t, s, above(loose[0], loose[0]))
	drop(t, s, loose[0])
	wantSweep(t, s, 2)
	wantUsed(t, s, 0)
}

// chain makes nodes in one another, each of which has the one below twice: their references, from the leaf on.
func chain(t *testing.T, s *shadow.Store, count int) []api.Ref {
	t.Helper()
	refs := []api.Ref{made(t, s, leaf(1))}
	for len(refs) < count {
		below := refs[len(refs)-1]
		refs = append(refs, made(t, s, above(below, below)))
	}
	return refs
}

// P14.3: nodes in one another, as deep as there are sectors, are freed at once.
func TestFreeDeep(t *testing.T) {
	count := 5000
	s := on(t, laid(t, count), 0, count, nil)
	refs := chain(t, s, count)
	top := refs[count-1]
	hold(t, s, top)
	wantSweep(t, s, 0)
	wantNoMake(t, s, leaf(2), api.ErrFull)
	drop(t, s, top)
	wantUsed(t, s, 0)
	chain(t, s, count)
	wantSweep(t, s, count)
}
