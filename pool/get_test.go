package pool_test

import (
	"bytes"
	"math"
	"math/rand/v2"
	"testing"

	"casemate/api"
	"casemate/disk"
	"casemate/hashlog"
	"casemate/sha"
)

// tamper turns a sector.
func tamper(t *testing.T, d *disk.Disk, s uint32, b []byte) {
	t.Helper()
	wantCode(t, "Tamper", d.Tamper(s, b), api.OK)
}

// P18.3: extents that are not there, ahead of a disk that is down, ahead of sums.
func TestGetWrong(t *testing.T) {
	d, p := fresh(t, 3)
	tamper(t, d, 1, block(1))
	tamper(t, d, 6, block(1))
	r := put(t, p, 1, block(1))
	wrong := func(e api.Errno) {
		t.Helper()
		for _, n := range []uint32{3, 4, 5, 6, 7, 256, api.MaxExtents, 65536, 65539, math.MaxInt32, 1 << 31, math.MaxUint32 - 2, math.MaxUint32 - 1, math.MaxUint32} {
			wantNoGet(t, p, elsewhere(r, n), api.ErrArg)
			wantNoGet(t, p, api.Ref{Sector: n}, api.ErrArg)
		}
		for _, n := range []uint32{0, 1, 2} {
			wantNoGet(t, p, elsewhere(turned(r), n), e)
			wantNoGet(t, p, api.Ref{Sector: n}, e)
		}
		wantNoGet(t, p, elsewhere(r, 1), e)
	}
	wrong(api.ErrIntegrity)
	for i := range r.Sum {
		x := r
		x.Sum[i] ^= 1 << (i % 8)
		wantNoGet(t, p, x, api.ErrIntegrity)
	}
	wantGet(t, p, r, block(1))
	fall(t, d)
	wrong(api.ErrDown)
	wantNoGet(t, p, r, api.ErrDown)
	wantCode(t, "Crash", d.Crash([]byte{1}), api.OK)
	wrong(api.ErrIntegrity)
	wantGet(t, p, r, block(1))
}

// P18.3: of a reference the extent and the sum alone are asked, whether it is held or free.
func TestGetOfFree(t *testing.T) {
	_, p := fresh(t, 3)
	none := api.Ref{Sector: 2, Sum: sha.Sum(noughts())}
	wantGet(t, p, none, noughts())
	wantNoGet(t, p, turned(none), api.ErrIntegrity)
	wantNoGet(t, p, api.Ref{}, api.ErrIntegrity)
	r := put(t, p, 1, block(1))
	wantCode(t, "Drop", p.Field().Drop(1, r.Sector), api.OK)
	wantGet(t, p, r, block(1))
	before := look(p.Field())
	wantGet(t, p, none, noughts())
	wantNoGet(t, p, elsewhere(r, 1), api.ErrIntegrity)
	wantNoGet(t, p, elsewhere(r, 3), api.ErrArg)
	wantState(t, p.Field(), before)
}

// P18.3: what stands there is summed by the log, whether it is as it was or not; what is not there is not.
func TestGetSums(t *testing.T) {
	log := hashlog.New()
	d := laid(t, 9)
	p := on(t, d, 2, 5, log)
	r := put(t, p, 1, block(1))
	wantGet(t, p, r, block(1))
	if log.Count() != 1 {
		t.Errorf("%d texts", log.Count())
	}
	tamper(t, d, 2, block(2))
	wantNoGet(t, p, r, api.ErrIntegrity)
	if log.Count() != 2 || !log.Has(block(2)) {
		t.Error("what was turned was not summed by the log")
	}
	tamper(t, d, 7, block(3))
	wantNoGet(t, p, elsewhere(r, 5), api.ErrArg)
	if log.Count() != 2 {
		t.Error("what is not the pool's was summed")
	}
	if d.Calls() != 1 {
		t.Errorf("%d calls changed something", d.Calls())
	}
}

// P18.5: a sector of which any byte is turned is told, till it is turned back.
func TestTurned(t *testing.T) {
	d, p := fresh(t, 3)
	put(t, p, 1, block(1))
	r := put(t, p, 1, block(2))
	for i := range api.Sector {
		b := block(2)
		b[i] ^= 1 << (i % 8)
		tamper(t, d, 4, b)
		wantNoGet(t, p, r, api.ErrIntegrity)
	}
	tamper(t, d, 4, block(2))
	wantGet(t, p, r, block(2))
	tamper(t, d, 3, noughts())
	tamper(t, d, 5, noughts())
	tamper(t, d, 2, block(2))
	wantGet(t, p, r, block(2))
}

// P18.5: old images are told by the reference of what stands there now, and are what was put with their own.
func TestOldImages(t *testing.T) {
	d, p := fresh(t, 3)
	f := p.Field()
	one := put(t, p, 1, block(1))
	wantCode(t, "Drop", f.Drop(1, one.Sector), api.OK)
	two := put(t, p, 1, block(2))
	other := put(t, p, 1, block(3))
	if one.Sector != two.Sector {
		t.Fatal("the extent was not taken anew")
	}
	wantNoGet(t, p, one, api.ErrIntegrity)
	tamper(t, d, 3, block(1))
	wantNoGet(t, p, two, api.ErrIntegrity)
	wantGet(t, p, one, block(1))
	tamper(t, d, 3, block(3)) // blocks that change places
	tamper(t, d, 4, block(2))
	wantNoGet(t, p, one, api.ErrIntegrity)
	wantNoGet(t, p, two, api.ErrIntegrity)
	wantNoGet(t, p, other, api.ErrIntegrity)
	wantCode(t, "Crash", d.Crash([]byte{255}), api.OK)
	wantNoGet(t, p, two, api.ErrIntegrity)
}

// P18.4, P18.5: what was flushed comes as it was put behind a crash; what was not is told, if it was not kept.
func TestCrash(t *testing.T) {
	d, p := fresh(t, 4)
	sure := put(t, p, 1, block(1))
	wantCode(t, "Flush", d.Flush(), api.OK)
	lost, kept := put(t, p, 1, block(2)), put(t, p, 2, block(3))
	wantCode(t, "Crash", d.Crash([]byte{2}), api.OK)
	wantGet(t, p, sure, block(1))
	wantNoGet(t, p, lost, api.ErrIntegrity)
	wantGet(t, p, kept, block(3))
}

// stored is a block that was put: by whom, and which one.
type stored struct {
	tenant, n int
	r         api.Ref
}

// P18.2 to P18.6: many blocks of two tenants, put, dropped, and turned, held against a list of them.
func TestSteps(t *testing.T) {
	told := map[api.Errno]int{}
	for seed := range uint64(40) {
		chance := rand.New(rand.NewPCG(seed, 18))
		count := 1 + chance.IntN(9)
		d, p := fresh(t, count)
		f := p.Field()
		var held []stored
		is := make([]int, count) // which block stands at each sector, if one was written there
		for step := range 300 {
			tenant := 1 + chance.IntN(3)
			switch kind := chance.IntN(10); {
			case kind < 5:
				r, e := p.Put(tenant, block(step))
				told[e]++
				if e == api.OK {
					held = append(held, stored{tenant, step, r})
					is[r.Sector] = step
				}
			case kind < 8 && len(held) > 0:
				i := chance.IntN(len(held))
				wantCode(t, "Drop", f.Drop(held[i].tenant, held[i].r.Sector), api.OK)
				held = append(held[:i], held[i+1:]...)
			case kind < 9 && len(held) > 0:
				one, other := held[chance.IntN(len(held))], held[chance.IntN(len(held))]
				tamper(t, d, 3+one.r.Sector, block(other.n))
				is[one.r.Sector] = other.n
			}
			for _, h := range held {
				if is[h.r.Sector] == h.n {
					wantGet(t, p, h.r, block(h.n))
				} else {
					wantNoGet(t, p, h.r, api.ErrIntegrity)
					told[api.ErrIntegrity]++
				}
			}
			if f.Charge(1)+f.Charge(2) != len(held) || f.Slack() != count-len(held) {
				t.Fatalf("%d blocks are held: %v", len(held), look(f))
			}
		}
	}
	for _, e := range []api.Errno{api.OK, api.ErrTenant, api.ErrQuota, api.ErrPool, api.ErrIntegrity} {
		if told[e] < 50 {
			t.Errorf("%v was told %d times", e, told[e])
		}
	}
}

// P18.3: as long as nobody turns it, what is got is the same each time, and not what stood beside it.
func TestGetTwice(t *testing.T) {
	d, p := fresh(t, 5)
	r := put(t, p, 2, block(9))
	first, e := p.Get(r)
	wantCode(t, "Get", e, api.OK)
	second, _ := p.Get(r)
	if !bytes.Equal(first, second) || &first[0] == &second[0] {
		t.Error("two answers are not the same, or share their memory")
	}
	if b, _ := d.Read(3); !bytes.Equal(b, first) {
		t.Error("it is not what the sector shows")
	}
}
