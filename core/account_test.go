package core_test

import (
	"reflect"
	"slices"
	"testing"

	"casemate/api"
	"casemate/disk"
	"casemate/entry"
	"casemate/super"
)

// account is what must stay as it is, where something is refused.
type account struct {
	tenants    []int
	roots      map[int]entry.Root
	limits     map[int][3]int
	times      []int
	used       int
	gen, epoch uint64
	register   super.Register
	slots      [][]byte
}

// account needs a disk that is not down.
func (b *bed) account(t *testing.T) account {
	t.Helper()
	a := account{tenants: b.c.Tenants(), roots: map[int]entry.Root{}, limits: map[int][3]int{}, used: b.c.Used(), gen: b.c.Gen(), epoch: b.c.Epoch(), register: register(t, b.d)}
	for id := 1; id <= api.MaxTenants; id++ {
		if x, e := b.c.Tenant(id); e == api.OK {
			a.roots[id] = x.Root()
		}
		reserve, quota, there := b.c.Field().Limits(id)
		a.limits[id] = [3]int{reserve, quota, b.c.Field().Charge(id)}
		if !there {
			a.limits[id] = [3]int{-1}
		}
	}
	for extent := range uint32(b.c.Field().Size()) {
		a.times = append(a.times, b.c.Field().Times(extent))
	}
	for s := uint32(2); s < 18; s++ {
		shown, e := b.d.Read(s)
		wantCode(t, "Read", e, api.OK)
		a.slots = append(a.slots, shown)
	}
	return a
}

// wantAccount fails if anything is not as it was.
func (b *bed) wantAccount(t *testing.T, before account) {
	t.Helper()
	if after := b.account(t); !reflect.DeepEqual(before, after) {
		t.Fatalf("there is\n%v, and was\n%v", after, before)
	}
}

// wantHead fails if the register does not name that sector, or what stands there is not a head of the core's Gen and Epoch, or of one ahead, in just that way.
func (b *bed) wantHead(t *testing.T, which uint8) {
	t.Helper()
	r := register(t, b.d)
	shown, e := b.d.Sure(uint32(which))
	wantCode(t, "Sure", e, api.OK)
	h, e := super.Read(shown)
	wantCode(t, "Read", e, api.OK)
	if r != (super.Register{Sum: b.log.Sum(shown), Gen: b.gen, Epoch: b.epoch, Which: which}) {
		t.Fatalf("the register: %v", r)
	}
	if h.Gen != b.gen || h.Epoch > b.epoch || !h.Has {
		t.Fatalf("the head: %v", h)
	}
}

// down lets a disk be down; what waited is sure.
func down(t *testing.T, d *disk.Disk) {
	t.Helper()
	wantCode(t, "Flush", d.Flush(), api.OK)
	wantCode(t, "Fail", d.Fail(0), api.OK)
	wantCode(t, "Flush", d.Flush(), api.ErrDown)
}

// up lets it be up again.
func up(t *testing.T, d *disk.Disk) {
	t.Helper()
	wantCode(t, "Crash", d.Crash(nil), api.OK)
}

// replaced puts other bytes into a sector, does something, and puts back what was there.
func replaced(t *testing.T, d *disk.Disk, sector uint32, b []byte, do func()) {
	t.Helper()
	was, e := d.Read(sector)
	wantCode(t, "Read", e, api.OK)
	wantCode(t, "Tamper", d.Tamper(sector, b), api.OK)
	do()
	wantCode(t, "Tamper", d.Tamper(sector, was), api.OK)
}

// turned turns a digit of a sector, does something, and turns it back.
func turned(t *testing.T, d *disk.Disk, sector uint32, do func()) {
	t.Helper()
	b, e := d.Read(sector)
	wantCode(t, "Read", e, api.OK)
	noise := slices.Clone(b)
	noise[int(sector*37)%api.Sector] ^= 16
	replaced(t, d, sector, noise, do)
}
