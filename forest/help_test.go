package forest_test

import (
	"maps"
	"math"
	"slices"
	"testing"

	"casemate/api"
	"casemate/disk"
	"casemate/entry"
	"casemate/forest"
	"casemate/hashlog"
	"casemate/mtree"
	"casemate/node"
	"casemate/shadow"
)

// first is the sector at which stores begin.
const first = 2

// stand is what a forest keeps of a tenant.
type stand struct {
	root   entry.Root
	tenant entry.Tenant
}

// plain stands for a forest: what it keeps of each tenant.
type plain map[int]stand

// pairs is all that should stand in its tree, by keys that are counted by hand.
func (p plain) pairs(t *testing.T) []mtree.Pair {
	t.Helper()
	var l []mtree.Pair
	for _, number := range slices.Sorted(maps.Keys(p)) {
		root, e := entry.WriteRoot(p[number].root)
		wantCode(t, "WriteRoot", e, api.OK)
		what, e := entry.WriteTenant(p[number].tenant)
		wantCode(t, "WriteTenant", e, api.OK)
		l = append(l, mtree.Pair{Key: uint64(2 * number), Val: root}, mtree.Pair{Key: uint64(2*number + 1), Val: what})
	}
	return l
}

// some is what a forest may keep, unlike for each number.
func some(n int) stand {
	x := stand{tenant: entry.Tenant{Slot: api.Sum{byte(n), byte(n >> 8), 31: 1}, Reserve: n % 2049, Quota: (n * 7) % 2049, Copy: n % 2}}
	if n%5 > 0 {
		x.root = entry.Root{Has: true, Ref: api.Ref{Sector: uint32(n), Sum: api.Sum{1, byte(n), 31: 9}}}
	}
	return x
}

func wantCode(t *testing.T, what string, e, want api.Errno) {
	t.Helper()
	if e != want {
		t.Fatalf("%s: %v, want %v", what, e, want)
	}
}

// laid is a disk, and a store of so many of its sectors.
func laid(t *testing.T, count int) (*disk.Disk, *shadow.Store) {
	t.Helper()
	d, e := disk.New(first + count)
	wantCode(t, "disk.New", e, api.OK)
	return d, on(t, d)
}

// on is another store of the same sectors as laid has.
func on(t *testing.T, d *disk.Disk) *shadow.Store {
	t.Helper()
	s, e := shadow.New(d, first, d.Size()-first, hashlog.New())
	wantCode(t, "shadow.New", e, api.OK)
	return s
}

// both is a forest, and a plain one to which the same is done.
type both struct {
	d *disk.Disk
	s *shadow.Store
	f *forest.Forest
	p plain
}

// fresh is a forest without tenants.
func fresh(t *testing.T, count int) *both {
	t.Helper()
	d, s := laid(t, count)
	f, e := forest.New(s)
	wantCode(t, "New", e, api.OK)
	return &both{d, s, f, plain{}}
}

// grown is a forest that has these tenants.
func grown(t *testing.T, count int, tenants ...int) *both {
	t.Helper()
	b := fresh(t, count)
	for i, number := range tenants {
		b.put(t, number, some(10*number+i))
	}
	return b
}

// everyone is all tenants' numbers, in no order.
func everyone() []int { return []int{5, 2, 8, 1, 7, 3, 6, 4} }

func (b *both) put(t *testing.T, number int, x stand) {
	t.Helper()
	wantCode(t, "Put", b.f.Put(number, x.root, x.tenant), api.OK)
	b.p[number] = x
}

func (b *both) del(t *testing.T, number int) {
	t.Helper()
	want := api.OK
	if _, there := b.p[number]; !there {
		want = api.ErrTenant
	}
	wantCode(t, "Del", b.f.Del(number), want)
	delete(b.p, number)
}

// clone is a clone of both.
func (b *both) clone(t *testing.T) *both {
	t.Helper()
	f := b.f.Clone()
	if f == nil || f == b.f {
		t.Fatal("Clone: none")
	}
	return &both{b.d, b.s, f, maps.Clone(b.p)}
}

// numbers is numbers that tenants may have, and others.
func numbers() []int {
	return []int{math.MinInt, -1 << 32, -1, 0, 1, 2, 3, 4, 5, 6, 7, 8, 9, 10, 1 << 32, 1<<32 + 1, 1<<62 + 1, math.MaxInt}
}

// wantTold fails if a forest does not tell what the plain one keeps.
func (b *both) wantTold(t *testing.T) {
	t.Helper()
	for _, number := range numbers() {
		want, there := b.p[number]
		code := api.OK
		if !there {
			code = api.ErrTenant
		}
		if r, x, e := b.f.Get(number); r != want.root || x != want.tenant || e != code {
			t.Fatalf("Get(%d): %v, %v, %v, want %v, %v", number, r, x, e, want, code)
		}
	}
	if l, e := b.f.Tenants(); !slices.Equal(l, slices.Sorted(maps.Keys(b.p))) || e != api.OK {
		t.Fatalf("Tenants: %v, %v, want those of %v", l, e, b.p)
	}
}

// wantTree fails if the tree of a forest's root has not just the pairs that it should.
func (b *both) wantTree(t *testing.T) {
	t.Helper()
	r := b.f.Root()
	if r.Has != (len(b.p) > 0) || !r.Has && r != (entry.Root{}) {
		t.Fatalf("the root of %d tenants: %v", len(b.p), r)
	}
	if !r.Has {
		return
	}
	x, e := mtree.Open(b.s, r.Ref)
	wantCode(t, "mtree.Open", e, api.OK)
	if l, e := x.Range(0, math.MaxUint64, math.MaxInt); !slices.Equal(l, b.p.pairs(t)) || e != api.OK {
		t.Fatalf("in the tree there is %v, %v, want %v", l, e, b.p.pairs(t))
	}
	wantCode(t, "Free", x.Free(), api.OK)
}

// sectors adds the sectors of all nodes of a root.
func sectors(t *testing.T, s *shadow.Store, root entry.Root, all map[uint32]int) {
	t.Helper()
	row := []api.Ref{root.Ref}
	if !root.Has {
		row = nil
	}
	for ; len(row) > 0; row = row[1:] {
		all[row[0].Sector]++
		n, e := s.Load(row[0])
		wantCode(t, "Load", e, api.OK)
		row = append(row, n.Kids...)
	}
}

// wantHeld fails if a store keeps other nodes than those of these forests.
func wantHeld(t *testing.T, s *shadow.Store, l ...*both) {
	t.Helper()
	all := map[uint32]int{}
	for _, b := range l {
		sectors(t, s, b.f.Root(), all)
	}
	for sector := range all {
		if !s.Has(sector) {
			t.Fatalf("the node at %d is gone", sector)
		}
	}
	if s.Used() != len(all) || s.Sweep() != 0 {
		t.Fatalf("the store keeps %d nodes, want %d", s.Used(), len(all))
	}
}

// want fails if a forest that is alone does not tell, or does not hold, what it should.
func (b *both) want(t *testing.T) {
	t.Helper()
	b.wantTold(t)
	b.wantTree(t)
	wantHeld(t, b.s, b)
}

// wantNil fails if a forest that is none tells anything but that.
func wantNil(t *testing.T, f *forest.Forest) {
	t.Helper()
	b := grown(t, 30, 1, 2)
	for _, number := range numbers() {
		if r, x, e := f.Get(number); r != (entry.Root{}) || x != (entry.Tenant{}) || e != api.ErrNil {
			t.Fatalf("Get: %v, %v, %v", r, x, e)
		}
		wantCode(t, "Del", f.Del(number), api.ErrNil)
		for _, copy := range []int{0, 2} {
			wantCode(t, "Put", f.Put(number, entry.Root{}, entry.Tenant{Copy: copy}), api.ErrNil)
		}
	}
	if l, e := f.Tenants(); len(l) != 0 || e != api.ErrNil {
		t.Fatalf("Tenants: %v, %v", l, e)
	}
	if f.Root() != (entry.Root{}) || f.Clone() != nil {
		t.Fatalf("the root is %v; is there a clone? %v", f.Root(), f.Clone())
	}
	wantCode(t, "Become", f.Become(b.f), api.ErrNil)
	wantCode(t, "Become", f.Become(f), api.ErrNil)
	wantCode(t, "Become", f.Become(nil), api.ErrNil)
	wantCode(t, "Become of none", b.f.Become(f), api.ErrNil)
	wantCode(t, "Free", f.Free(), api.ErrNil)
	b.want(t)
}

// wantNoForest fails if there is a forest, or another error.
func wantNoForest(t *testing.T, want api.Errno) func(*forest.Forest, api.Errno) {
	t.Helper()
	return func(f *forest.Forest, e api.Errno) {
		t.Helper()
		if f != nil || e != want {
			t.Fatalf("there is a forest: %v, %v, want %v", f, e, want)
		}
	}
}

// fill holds leaves of its own till a store has no room; what it has made can be dropped.
func fill(t *testing.T, s *shadow.Store) []api.Ref {
	t.Helper()
	var l []api.Ref
	for {
		r, e := s.Make(node.Node{Leaf: true, Keys: []uint64{uint64(len(l))}, Vals: [][44]byte{{255}}})
		if e == api.ErrFull {
			return l
		}
		wantCode(t, "Make", e, api.OK)
		wantCode(t, "Hold", s.Hold(r), api.OK)
		l = append(l, r)
	}
}

// drop drops what fill made.
func drop(t *testing.T, s *shadow.Store, l []api.Ref) {
	t.Helper()
	for _, r := range l {
		wantCode(t, "Drop", s.Drop(r), api.OK)
	}
}

// turned turns a sector, does something, and turns it back.
func turned(t *testing.T, d *disk.Disk, sector uint32, do func()) {
	t.Helper()
	was, e := d.Read(sector)
	wantCode(t, "Read", e, api.OK)
	noise := slices.Clone(was)
	noise[int(sector*37)%api.Sector] ^= 16
	wantCode(t, "Tamper", d.Tamper(sector, noise), api.OK)
	do()
	wantCode(t, "Tamper", d.Tamper(sector, was), api.OK)
}

// down lets a disk be down; what waited is sure.
func down(t *testing.T, d *disk.Disk) {
	t.Helper()
	wantCode(t, "Flush", d.Flush(), api.OK)
	wantCode(t, "Fail", d.Fail(0), api.OK)
	wantCode(t, "Flush", d.Flush(), api.ErrDown)
}

// up lets it be up again.
func up(t *testing.T, d *disk.Disk) {
	t.Helper()
	wantCode(t, "Crash", d.Crash(nil), api.OK)
}
