package thin_test

import (
	"bytes"
	"reflect"
	"slices"
	"testing"

	"casemate/api"
	"casemate/disk"
	"casemate/entry"
	"casemate/thin"
)

// written is a view of a tenant of some volumes and blocks, settled, that has changes behind that.
func written(t *testing.T) *user {
	t.Helper()
	u := laid(t, 300, 60).fresh(t, 1)
	for n := 1; n <= 3; n++ {
		u.create(t, n, 20*n)
		for block := range 8 {
			u.write(t, n, block*2*n, api.OK)
		}
	}
	u.snapshot(t, 1, 4)
	u.settle(t)
	u.write(t, 1, 0, api.OK)
	u.write(t, 4, 2, api.OK)
	u.write(t, 3, 1, api.OK)
	u.discard(t, 2, 4)
	u.snapshot(t, 3, 5)
	return u
}

// places is blocks of what written made: some that were written, of which the kept tree has the same, another or none, and some that were not.
func places() [][2]int {
	return [][2]int{{1, 0}, {1, 2}, {1, 1}, {2, 4}, {2, 39}, {3, 1}, {4, 2}, {5, 1}, {5, 59}}
}

// account is what must stay as it is, where something is refused.
type account struct {
	root         entry.Root
	used, charge int
	times        []int
}

func (u *user) account() account {
	a := account{root: u.x.Root(), used: u.s.Used(), charge: u.pool.Field().Charge(u.id)}
	for extent := range u.pool.Field().Size() {
		a.times = append(a.times, u.pool.Field().Times(uint32(extent)))
	}
	return a
}

// wantSame does something that must leave all as it is.
func (u *user) wantSame(t *testing.T, do func()) {
	t.Helper()
	before := u.account()
	do()
	if after := u.account(); !reflect.DeepEqual(before, after) {
		t.Fatalf("there is\n%v, and was\n%v", after, before)
	}
	if u.s.Sweep() != 0 {
		t.Fatal("nodes are loose")
	}
}

// tries writes another block: was it written? If not, that error must be told, and all be as it was.
func (u *user) tries(t *testing.T, n, block int, want api.Errno) bool {
	t.Helper()
	u.writes++
	before := u.account()
	e := u.v.Write(n, block, text(u.writes))
	if e == api.OK {
		u.p.working[n].written[block] = u.writes
		return true
	}
	wantCode(t, "Write", e, want)
	if after := u.account(); !reflect.DeepEqual(before, after) {
		t.Fatalf("there is\n%v, and was\n%v", after, before)
	}
	return false
}

// P25.3, P25.7: a quota that is used up, and no room beside others' reserves, whichever block it is.
func TestNoRoom(t *testing.T) {
	u := written(t)
	field := u.pool.Field()
	charge := field.Charge(1)
	refuse := func(want api.Errno) {
		t.Helper()
		for _, c := range places() {
			u.wantSame(t, func() { u.write(t, c[0], c[1], want) })
		}
		u.want(t)
	}
	limit := func(id, reserve, quota int) {
		t.Helper()
		wantCode(t, "Resize", field.Resize(id, reserve, quota), api.OK)
	}
	limit(1, 0, charge)
	refuse(api.ErrQuota)
	limit(1, 0, 60)
	limit(2, 60-charge, 60)
	refuse(api.ErrPool)
	// Both are told ahead of a store that is full, and of a disk of blocks that is down.
	l := u.fill(t)
	refuse(api.ErrPool)
	limit(1, 0, charge)
	refuse(api.ErrQuota)
	down(t, u.blocks)
	u.wantSame(t, func() { u.write(t, 1, 0, api.ErrQuota) })
	limit(1, 0, 60)
	u.wantSame(t, func() { u.write(t, 1, 0, api.ErrPool) })
	limit(2, 0, 60)
	u.wantSame(t, func() { u.write(t, 1, 0, api.ErrDown) })
	up(t, u.blocks)
	u.drop(t, l)
	// A reserve lets it be written, till that is used up.
	limit(1, charge+1, charge+1)
	limit(2, 60-charge-1, 60)
	u.write(t, 1, 1, api.OK)
	u.want(t)
	refuse(api.ErrQuota)
}

// P25.3: what is written over is held till the new block is set, so a quota that is used up leaves no room for that.
func TestNoRoomOver(t *testing.T) {
	u := laid(t, 60, 4).fresh(t, 1)
	u.create(t, 1, 9)
	for block := range 4 {
		u.write(t, 1, block, api.OK)
	}
	u.write(t, 1, 0, api.ErrQuota)
	u.want(t)
	u.discard(t, 1, 3)
	u.write(t, 1, 0, api.OK)
	u.want(t)
	u.write(t, 1, 1, api.OK)
	u.want(t)
}

// P25.3: a block is put for the view's tenant, which alone is charged; a pool in whose field it is not admitted takes none.
func TestForTheTenant(t *testing.T) {
	g := laid(t, 60, 5)
	u, w := g.fresh(t, 1), g.fresh(t, 2)
	u.create(t, 1, 5)
	w.create(t, 1, 5)
	u.write(t, 1, 0, api.OK)
	w.write(t, 1, 0, api.OK)
	w.write(t, 1, 1, api.OK)
	g.wantHeld(t, u, w)
	other := laid(t, 60, 5)
	wantCode(t, "Remove", other.pool.Field().Remove(1), api.OK)
	v, e := thin.New(u.x, other.pool, u.master, u.c)
	wantCode(t, "New", e, api.OK)
	u.wantSame(t, func() { wantCode(t, "Write", v.Write(1, 1, text(5)), api.ErrTenant) })
	u.wantTold(t)
	w.wantTold(t)
	g.wantHeld(t, u, w)
	other.wantHeld(t)
}

// P25.3, P25.7: in a store that has no room a write is refused, with each number of free sectors up to that with which it is done; the extent is given back.
func TestFull(t *testing.T) {
	for _, c := range places() {
		u := written(t)
		l := u.fill(t)
		missing := 0
		for !u.tries(t, c[0], c[1], api.ErrFull) {
			u.wantTold(t)
			u.drop(t, l[missing:missing+1])
			missing++
		}
		u.drop(t, l[missing:])
		if missing < 2 {
			t.Errorf("a write needs %d sectors", missing)
		}
		u.want(t)
	}
}

// keeps is what a crash may keep of the writes that wait.
func keeps() [][]byte {
	return [][]byte{nil, {1}, {2}, bytes.Repeat([]byte{255}, 9)}
}

// P25.3, P25.7: a disk, of nodes or of blocks, that goes down at any of its writes: all is as it was, whatever a crash keeps of those that waited.
func TestDownInTheMidst(t *testing.T) {
	disks := []func(u *user) *disk.Disk{
		func(u *user) *disk.Disk { return u.nodes },
		func(u *user) *disk.Disk { return u.blocks },
	}
	for i, which := range disks {
		for j, c := range places() {
			u := written(t)
			d := which(u)
			wantCode(t, "Flush", d.Flush(), api.OK)
			writes := 0
			for ; ; writes++ {
				wantCode(t, "Fail", d.Fail(writes), api.OK)
				if u.tries(t, c[0], c[1], api.ErrDown) {
					break
				}
				wantCode(t, "Crash", d.Crash(keeps()[(writes+j)%4]), api.OK)
				u.wantTold(t)
			}
			if i == 0 && writes < 2 || i == 1 && writes != 1 {
				t.Errorf("a write needs %d writes", writes)
			}
			wantCode(t, "Crash", d.Crash(keeps()[3]), api.OK)
			u.want(t)
		}
	}
}

// P25.2 to P25.4: while the nodes' disk is down, all that needs them tells it; while that of the blocks is, what was not written can be read, and what was written discarded.
func TestDown(t *testing.T) {
	u := written(t)
	down(t, u.nodes)
	u.wantSame(t, func() {
		u.wantRefused(t, 1, 0, api.ErrDown)
		u.wantRefused(t, 5, 0, api.ErrDown)
		u.wantRefused(t, 9, 0, api.ErrVolume)
		u.wantRefused(t, 1, 256, api.ErrDown)
		u.wantRefused(t, 1, -1, api.ErrDown)
		for n, want := range map[int]api.Errno{0: api.ErrVolume, 1: api.ErrDown, 9: api.ErrVolume} {
			if used, e := u.v.Used(n); used != 0 || e != want {
				t.Fatalf("Used(%d): %d, %v", n, used, e)
			}
		}
	})
	up(t, u.nodes)
	u.want(t)
	down(t, u.blocks)
	u.wantSame(t, func() {
		for _, c := range places() {
			if _, was := u.p.working[c[0]].written[c[1]]; !was {
				u.wantRead(t, c[0], c[1])
			} else if b, e := u.v.Read(c[0], c[1]); len(b) != 0 || e != api.ErrDown {
				t.Fatalf("Read: %d bytes, %v", len(b), e)
			}
			u.write(t, c[0], c[1], api.ErrDown)
			if used, e := u.v.Used(c[0]); used != len(u.p.working[c[0]].written) || e != api.OK {
				t.Fatalf("Used: %d, %v", used, e)
			}
		}
	})
	u.discard(t, 1, 0)
	u.discard(t, 1, 1)
	up(t, u.blocks)
	u.want(t)
}

// P25.4, P25.7: a discard that is refused, since the store has no room, or its disk is down at any of its writes.
func TestDiscardRefused(t *testing.T) {
	u := written(t)
	l := u.fill(t)
	refuse := func(want api.Errno) {
		t.Helper()
		u.wantSame(t, func() {
			if was, e := u.v.Discard(1, 0); was || e != want {
				t.Fatalf("Discard: %v, %v, want %v", was, e, want)
			}
		})
	}
	refuse(api.ErrFull)
	u.discard(t, 1, 1) // it was not written, so nothing must be made
	u.want(t)
	u.drop(t, l)
	wantCode(t, "Flush", u.nodes.Flush(), api.OK)
	for writes := range 2 {
		wantCode(t, "Fail", u.nodes.Fail(writes), api.OK)
		refuse(api.ErrDown)
		up(t, u.nodes)
		u.want(t)
	}
	u.discard(t, 1, 0)
	u.want(t)
}

// P25.2, P25.3: what is read, and what was handed in, is nobody else's.
func TestApart(t *testing.T) {
	u := laid(t, 60, 20).fresh(t, 1)
	u.create(t, 1, 5)
	given := slices.Clone(text(1))[:512:512]
	wantCode(t, "Write", u.v.Write(1, 0, given), api.OK)
	if !bytes.Equal(given, text(1)) {
		t.Error("Write changed the block")
	}
	clear(given)
	u.p.working[1].written[0] = 1
	u.want(t)
	for _, block := range []int{0, 1} {
		b, e := u.v.Read(1, block)
		wantCode(t, "Read", e, api.OK)
		for i := range b {
			b[i] = 99
		}
		u.want(t)
	}
	long := append(text(2), text(3)...)
	wantCode(t, "Write", u.v.Write(1, 2, long[:512]), api.OK)
	u.p.working[1].written[2] = 2
	if !bytes.Equal(long[512:], text(3)) {
		t.Error("Write changed what lies behind the block")
	}
	u.want(t)
}

// P1: trees whose roots somebody else dropped, extents that somebody else holds, and blocks that stand nowhere: all calls end, and none panics.
func TestStolen(t *testing.T) {
	u := written(t)
	for range 3 {
		u.s.Drop(u.x.Root().Ref)
		u.v.Write(1, 0, text(1))
		u.v.Read(1, 0)
		u.v.Discard(1, 2)
		u.v.Used(1)
	}
	u = written(t)
	for _, sector := range []uint32{60, 61, 1 << 31, 1<<32 - 1} {
		wantCode(t, "Set", u.x.Set(1, 9, entry.Block{Ref: api.Ref{Sector: sector}}), api.OK)
		if b, e := u.v.Read(1, 9); len(b) != 0 || e != api.ErrArg {
			t.Fatalf("Read: %d bytes, %v", len(b), e)
		}
		if used, e := u.v.Used(1); used != 9 || e != api.OK {
			t.Fatalf("Used: %d, %v", used, e)
		}
	}
	u.write(t, 1, 9, api.OK)
	u.want(t)
}
