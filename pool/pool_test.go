package pool_test

import (
	"bytes"
	"math"
	"reflect"
	"slices"
	"testing"
	"unsafe"

	"casemate/api"
	"casemate/disk"
	"casemate/extent"
	"casemate/hashlog"
	"casemate/pool"
	"casemate/sha"
)

// laid is a disk of a size that may be.
func laid(t *testing.T, sectors int) *disk.Disk {
	t.Helper()
	d, e := disk.New(sectors)
	if e != api.OK {
		t.Fatalf("disk.New(%d): %v", sectors, e)
	}
	return d
}

// on is a pool of some sectors of a disk, in whose field the tenants 1 and 2 may have all.
func on(t *testing.T, d *disk.Disk, from, count int, log *hashlog.Log) *pool.Pool {
	t.Helper()
	p, e := pool.New(d, from, count, log)
	if p == nil || e != api.OK {
		t.Fatalf("New of %d sectors from %d on: %v, %v", count, from, p, e)
	}
	for tenant := 1; tenant <= 2; tenant++ {
		wantCode(t, "Admit", p.Field().Admit(tenant, 0, count), api.OK)
	}
	return p
}

// fresh is a pool of so many extents, from the sector 3 on, on a disk with two more behind them.
func fresh(t *testing.T, count int) (*disk.Disk, *pool.Pool) {
	t.Helper()
	d := laid(t, count+5)
	return d, on(t, d, 3, count, hashlog.New())
}

// block is a block, unlike for each number below 65536.
func block(n int) []byte {
	b := bytes.Repeat([]byte{byte(n*7 + 1)}, api.Sector)
	b[0], b[api.Sector-1] = byte(n), byte(n>>8)
	return b
}

func noughts() []byte { return make([]byte, api.Sector) }

func wantCode(t *testing.T, what string, e, want api.Errno) {
	t.Helper()
	if e != want {
		t.Fatalf("%s: %v, want %v", what, e, want)
	}
}

// put puts a block that may be put.
func put(t *testing.T, p *pool.Pool, tenant int, b []byte) api.Ref {
	t.Helper()
	r, e := p.Put(tenant, b)
	wantCode(t, "Put", e, api.OK)
	return r
}

// state is all that a field tells.
type state struct {
	slack int
	times []int
	told  [api.MaxTenants + 2][4]int
}

func look(f *extent.Field) state {
	s := state{slack: f.Slack()}
	for n := range f.Size() {
		s.times = append(s.times, f.Times(uint32(n)))
	}
	for tenant := range s.told {
		reserve, quota, ok := f.Limits(tenant)
		s.told[tenant] = [4]int{reserve, quota, f.Charge(tenant)}
		if ok {
			s.told[tenant][3] = 1
		}
	}
	return s
}

// wantState fails if a field tells anything else.
func wantState(t *testing.T, f *extent.Field, want state) {
	t.Helper()
	if got := look(f); got.slack != want.slack || got.told != want.told || !slices.Equal(got.times, want.times) {
		t.Fatalf("the field tells\n%v, want\n%v", got, want)
	}
}

// wantNoPut fails if a block is put, if it is told otherwise why not, or if anything has changed.
func wantNoPut(t *testing.T, p *pool.Pool, tenant int, b []byte, want api.Errno) {
	t.Helper()
	before := look(p.Field())
	if r, e := p.Put(tenant, b); e != want || r != (api.Ref{}) {
		t.Fatalf("Put(%d) of %d bytes: %v, %v, want %v", tenant, len(b), r, e, want)
	}
	wantState(t, p.Field(), before)
}

func wantGet(t *testing.T, p *pool.Pool, r api.Ref, want []byte) {
	t.Helper()
	if b, e := p.Get(r); e != api.OK || !bytes.Equal(b, want) {
		t.Fatalf("Get of %d: %d bytes, %v", r.Sector, len(b), e)
	}
}

func wantNoGet(t *testing.T, p *pool.Pool, r api.Ref, want api.Errno) {
	t.Helper()
	if b, e := p.Get(r); e != want || len(b) != 0 {
		t.Fatalf("Get of %d: %d bytes, %v, want %v", r.Sector, len(b), e, want)
	}
}

// turned is a reference with another sum.
func turned(r api.Ref) api.Ref {
	r.Sum[31] ^= 1
	return r
}

// elsewhere is a reference to another extent.
func elsewhere(r api.Ref, n uint32) api.Ref {
	r.Sector = n
	return r
}

// wrongBlocks is texts of lengths that a block has not, with room behind them or without.
func wrongBlocks() [][]byte {
	return [][]byte{nil, {}, {1}, noughts()[:511], noughts()[1:], noughts()[:0], make([]byte, 513), make([]byte, 1024), make([]byte, 65536)}
}

// fall makes a disk that is not down tell ErrDown till it crashes.
func fall(t *testing.T, d *disk.Disk) {
	t.Helper()
	wantCode(t, "Fail", d.Fail(0), api.OK)
	wantCode(t, "Flush", d.Flush(), api.ErrDown)
}

// P18.1: sectors that a pool may stand on, and those that it may not.
func TestNew(t *testing.T) {
	log := hashlog.New()
	for _, size := range []int{1, 2, 64, api.MaxExtents, api.MaxSectors} {
		d, most := laid(t, size), min(size, api.MaxExtents)
		for _, c := range [][2]int{{0, 1}, {0, most}, {size - 1, 1}, {size - most, most}, {size / 2, min(size-size/2, most)}} {
			p, e := pool.New(d, c[0], c[1], log)
			if p == nil || e != api.OK {
				t.Fatalf("New of %d sectors of %d from %d on: %v, %v", c[1], size, c[0], p, e)
			}
			f := p.Field()
			wantState(t, f, state{slack: c[1], times: make([]int, c[1])})
			if f == nil || f != p.Field() || f.Size() != c[1] || p.Clash() {
				t.Errorf("a pool of %d sectors from %d on: %v", c[1], c[0], f)
			}
		}
		for _, c := range [][2]int{
			{-1, 1}, {-1, 2}, {math.MinInt, 1}, {math.MinInt, math.MaxInt}, {math.MinInt32, most}, {-size, most},
			{0, 0}, {0, -1}, {0, math.MinInt}, {1, math.MinInt}, {size, 0}, {size, -1}, {size + 5, -5}, {math.MaxInt, math.MinInt},
			{0, most + 1}, {0, size + 1}, {1, size}, {size, 1}, {size - 1, 2}, {size + 1, 1},
			{0, api.MaxExtents + 1}, {0, math.MaxInt}, {1, math.MaxInt}, {math.MaxInt, 1}, {math.MaxInt, math.MaxInt}, {math.MaxUint32, 2}, {math.MaxUint32 + 1, 1},
		} {
			if p, e := pool.New(d, c[0], c[1], log); p != nil || e != api.ErrArg {
				t.Errorf("New of %d sectors of %d from %d on: %v, %v", c[1], size, c[0], p, e)
			}
		}
		if d.Calls() != 0 || log.Count() != 0 {
			t.Error("New wrote or summed something")
		}
	}
}

// P18.1: a disk that is down has its sectors.
func TestNewOfDown(t *testing.T) {
	d := laid(t, 9)
	fall(t, d)
	p := on(t, d, 0, 9, nil)
	wantNoPut(t, p, 1, block(1), api.ErrDown)
	wantCode(t, "Crash", d.Crash(nil), api.OK)
	wantGet(t, p, put(t, p, 1, block(1)), block(1))
}

// P18.1: disks that are none, ahead of sectors that may not be; logs that are none are none.
func TestNewOfNone(t *testing.T) {
	for _, d := range []*disk.Disk{nil, {}, new(disk.Disk)} {
		for _, c := range [][2]int{{0, 1}, {0, 0}, {-1, 1}, {0, -1}, {0, api.MaxExtents}, {0, api.MaxExtents + 1}, {math.MaxInt, math.MaxInt}} {
			if p, e := pool.New(d, c[0], c[1], hashlog.New()); p != nil || e != api.ErrNil {
				t.Errorf("New of %d sectors from %d on, of no disk: %v, %v", c[1], c[0], p, e)
			}
		}
	}
	for _, log := range []*hashlog.Log{nil, {}} {
		p := on(t, laid(t, 9), 3, 4, log)
		r := put(t, p, 1, block(1))
		if r.Sum != sha.Sum(block(1)) || p.Clash() {
			t.Error("a pool without a log sums otherwise, or has a clash")
		}
		wantGet(t, p, r, block(1))
		wantNoGet(t, p, turned(r), api.ErrIntegrity)
	}
}

// P18.1: of nil, or a pool that no call made.
func TestNoPool(t *testing.T) {
	for _, p := range []*pool.Pool{nil, {}, new(pool.Pool)} {
		for range 2 {
			for _, tenant := range []int{math.MinInt, -1, 0, 1, api.MaxTenants, api.MaxTenants + 1, math.MaxInt} {
				for _, b := range append(wrongBlocks(), noughts()) {
					wantNoPut(t, p, tenant, b, api.ErrNil)
				}
			}
			for _, r := range []api.Ref{{}, {Sector: 1}, {Sector: math.MaxUint32, Sum: api.Sum{1}}, {Sum: sha.Sum(noughts())}} {
				wantNoGet(t, p, r, api.ErrNil)
			}
			if p.Field() != nil || p.Clash() {
				t.Errorf("Field and Clash: %v, %v", p.Field(), p.Clash())
			}
		}
	}
}

// inside is a field of a log, which no call of it lays open.
func inside[T any](log *hashlog.Log, name string) *T {
	f := reflect.ValueOf(log).Elem().FieldByName(name)
	return (*T)(unsafe.Pointer(f.UnsafeAddr()))
}

// P18.1: a clash of the log. True ones are not known, so that one is laid into the log's own memory.
func TestClash(t *testing.T) {
	log := hashlog.New()
	d := laid(t, 9)
	p, other := on(t, d, 0, 4, log), on(t, d, 4, 5, hashlog.New())
	r := put(t, p, 1, block(1))
	put(t, other, 1, block(1))
	if p.Clash() || other.Clash() {
		t.Fatal("a clash of one text")
	}
	texts := *inside[map[api.Sum][][]byte](log, "texts")
	texts[r.Sum] = append(texts[r.Sum], []byte("forged"))
	*inside[api.Sum](log, "clash") = r.Sum
	*inside[bool](log, "clashed") = true
	if _, _, ok := log.Clash(); !ok {
		t.Fatal("the clash was not laid")
	}
	if !p.Clash() || other.Clash() {
		t.Errorf("Clash: %v, of another log %v", p.Clash(), other.Clash())
	}
}

// P18.2: blocks stand in the first free extents, as they are, by one write each, and are charged to who put them.
func TestPut(t *testing.T) {
	log := hashlog.New()
	d := laid(t, 20)
	p := on(t, d, 5, 10, log)
	var refs []api.Ref
	for i := range 10 {
		r := put(t, p, 1+i%2, block(i))
		refs = append(refs, r)
		if r.Sector != uint32(i) || r.Sum != sha.Sum(block(i)) {
			t.Fatalf("Put of the block %d: %v", i, r)
		}
		if b, e := d.Read(uint32(5 + i)); e != api.OK || !bytes.Equal(b, block(i)) || !log.Has(b) {
			t.Fatalf("the block %d is not on the disk, or not in the log", i)
		}
		if d.Calls() != i+1 || d.Waits() != i+1 || log.Count() != i+1 {
			t.Fatalf("%d blocks: %d calls, %d wait, %d texts", i+1, d.Calls(), d.Waits(), log.Count())
		}
		if f := p.Field(); f.Times(r.Sector) != 1 || f.Charge(1) != i/2+1 || f.Charge(2) != (i+1)/2 || f.Slack() != 9-i {
			t.Fatalf("%d blocks: %v", i+1, look(f))
		}
	}
	for i, r := range refs {
		wantGet(t, p, r, block(i))
	}
	for _, s := range []uint32{0, 1, 2, 3, 4, 15, 16, 17, 18, 19} {
		if b, e := d.Read(s); e != api.OK || !bytes.Equal(b, noughts()) {
			t.Errorf("the sector %d was written: %v", s, e)
		}
	}
	wantNoPut(t, p, 1, block(10), api.ErrPool)
}

// P18.2: a pool takes what its field takes; an extent that was dropped is written anew, one that is held is not.
func TestPutAnew(t *testing.T) {
	_, p := fresh(t, 4)
	f := p.Field()
	one, two, three := put(t, p, 1, block(1)), put(t, p, 2, block(2)), put(t, p, 1, block(3))
	wantCode(t, "Hold", f.Hold(two.Sector), api.OK)
	wantCode(t, "Drop", f.Drop(1, one.Sector), api.OK)
	wantCode(t, "Drop", f.Drop(2, two.Sector), api.OK)
	wantGet(t, p, one, block(1)) // it is free, and not written anew as yet
	four := put(t, p, 2, block(4))
	if four.Sector != one.Sector {
		t.Fatalf("put at %d", four.Sector)
	}
	wantNoGet(t, p, one, api.ErrIntegrity)
	wantGet(t, p, two, block(2))
	wantGet(t, p, three, block(3))
	wantCode(t, "Claim", f.Claim(1, 3), api.OK)
	wantNoPut(t, p, 1, block(5), api.ErrPool)
	wantCode(t, "Drop", f.Drop(1, three.Sector), api.OK)
	wantGet(t, p, put(t, p, 1, block(3)), block(3))
	wantGet(t, p, three, block(3)) // the same bytes at the same place
}

// P18.2: equal blocks have places of their own.
func TestPutTwice(t *testing.T) {
	_, p := fresh(t, 4)
	a, b := put(t, p, 1, noughts()), put(t, p, 2, noughts())
	if a.Sum != b.Sum || a.Sector != 0 || b.Sector != 1 || p.Field().Charge(1) != 1 || p.Field().Charge(2) != 1 {
		t.Errorf("the same block twice: %v and %v", a, b)
	}
}

// P18.2: what is put is a copy; what is told is new memory; neither is changed.
func TestCopies(t *testing.T) {
	_, p := fresh(t, 4)
	room := append(block(1), 7, 8, 9)
	b := room[:api.Sector]
	r := put(t, p, 1, b)
	if !bytes.Equal(room, append(block(1), 7, 8, 9)) {
		t.Error("what was put was changed")
	}
	b[3] ^= 1
	wantGet(t, p, r, block(1))
	got, _ := p.Get(r)
	got[4] ^= 1
	wantGet(t, p, r, block(1))
}

// P18.2: texts that are no blocks, ahead of tenants that take nothing, ahead of disks that are down.
func TestPutWrong(t *testing.T) {
	d, p := fresh(t, 3)
	f := p.Field()
	wantCode(t, "Resize", f.Resize(2, 0, 0), api.OK)
	wantCode(t, "Admit", f.Admit(4, 2, 2), api.OK)
	put(t, p, 1, block(1))
	wrong := func() {
		t.Helper()
		calls := d.Calls()
		for _, tenant := range []int{math.MinInt, -1, 0, 1, 2, 3, 4, api.MaxTenants, api.MaxTenants + 1, math.MaxInt} {
			for _, b := range wrongBlocks() {
				wantNoPut(t, p, tenant, b, api.ErrForm)
			}
		}
		for _, tenant := range []int{math.MinInt, -1, 0, 3, 5, api.MaxTenants, api.MaxTenants + 1, math.MaxInt} {
			wantNoPut(t, p, tenant, block(2), api.ErrTenant)
		}
		wantNoPut(t, p, 1, block(2), api.ErrPool)
		wantNoPut(t, p, 2, block(2), api.ErrQuota)
		if d.Calls() != calls {
			t.Error("what was refused was written")
		}
	}
	wrong()
	fall(t, d)
	wrong()
	wantNoPut(t, p, 4, block(2), api.ErrDown)
	wantCode(t, "Crash", d.Crash(nil), api.OK)
	wrong()
	put(t, p, 4, block(2))
	put(t, p, 4, block(3))
	wantNoPut(t, p, 4, block(4), api.ErrQuota)
}

// P18.2, P18.6: a disk that goes down at each write: the extent is dropped again, and is put into behind the crash.
func TestPutDown(t *testing.T) {
	for calls := range 6 {
		d, p := fresh(t, 6)
		wantCode(t, "Resize", p.Field().Resize(2, calls%3, 3), api.OK)
		wantCode(t, "Fail", d.Fail(calls), api.OK)
		var refs []api.Ref
		for i := range calls {
			refs = append(refs, put(t, p, 1+i%2, block(i)))
		}
		for range 3 {
			wantNoPut(t, p, 1, block(calls), api.ErrDown)
			wantNoPut(t, p, 2, block(calls), api.ErrDown)
		}
		for _, r := range refs {
			wantNoGet(t, p, r, api.ErrDown)
		}
		wantCode(t, "Crash", d.Crash([]byte{255}), api.OK)
		for i, r := range refs {
			wantGet(t, p, r, block(i))
		}
		r := put(t, p, 1, block(calls))
		if r.Sector != uint32(calls) {
			t.Fatalf("put at %d, want %d", r.Sector, calls)
		}
		wantGet(t, p, r, block(calls))
	}
}

// P18.2: all extents that a pool may have.
func TestPutAll(t *testing.T) {
	d := laid(t, api.MaxSectors)
	p := on(t, d, api.MaxSectors-api.MaxExtents, api.MaxExtents, nil)
	for i := range api.MaxExtents {
		if r := put(t, p, 1, block(i)); r.Sector != uint32(i) {
			t.Fatalf("the block %d is at %d", i, r.Sector)
		}
	}
	wantNoPut(t, p, 1, block(0), api.ErrQuota)
	wantNoPut(t, p, 2, block(0), api.ErrPool)
	for i := range api.MaxExtents {
		wantGet(t, p, api.Ref{Sector: uint32(i), Sum: sha.Sum(block(i))}, block(i))
	}
	if b, e := d.Read(api.MaxSectors - 1); e != api.OK || !bytes.Equal(b, block(api.MaxExtents-1)) {
		t.Errorf("the last sector: %v", e)
	}
}

// P18.2: the chapter's example.
func TestExample(t *testing.T) {
	_, p := fresh(t, 4)
	wantNoPut(t, p, 3, block(1), api.ErrTenant)
}
