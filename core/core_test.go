package core_test

import (
	"bytes"
	"math"
	"slices"
	"testing"

	"casemate/api"
	"casemate/core"
	"casemate/seal"
)

// wantNone fails if a core that is none answers anything.
func wantNone(t *testing.T, c *core.Core) {
	t.Helper()
	for _, id := range []int{math.MinInt, -1, 0, 1, 8, 9, math.MaxInt} {
		x, e := c.Tenant(id)
		v, f := c.Open(id, api.Key{})
		for _, e := range []api.Errno{e, f, c.Add(id, api.Key{}, api.Key{}, [32]byte{}, 0, 0), c.Add(id, api.Key{}, api.Key{}, [32]byte{}, 2, 1), c.Commit(id), c.Abort(id), c.Rotate(id, api.Key{}, api.Key{}, [32]byte{}), c.Limit(id, 0, 0), c.Limit(id, -1, -1), c.Shred(id)} {
			wantCode(t, "a call of a core that is none", e, api.ErrNil)
		}
		if x != nil || v != nil {
			t.Fatal("a core that is none tells something")
		}
	}
	for _, r := range []api.Ref{{}, {Sector: 1}, {Sector: math.MaxUint32, Sum: api.Sum{1}}} {
		wantCode(t, "Check", c.Check(r), api.ErrNil)
	}
	if c.Epoch() != 0 || c.Gen() != 0 || len(c.Tenants()) > 0 || c.Field() != nil || c.Used() != 0 || c.Clash() {
		t.Fatal("a core that is none tells something")
	}
}

// P27.3, P1: cores that are nil, or that no call made.
func TestNone(t *testing.T) {
	wantNone(t, nil)
	wantNone(t, &core.Core{})
	wantNone(t, new(core.Core))
	var c core.Core
	wantNone(t, &c)
}

// P27.1 to P27.4: a core without tenants, and what it tells.
func TestFresh(t *testing.T) {
	b := fresh(t, 64)
	b.wantAll(t)
	if b.c.Gen() != 1 || b.c.Epoch() != 1 || b.c.Used() != 0 || b.c.Field().Size() != 11 || b.c.Field().Slack() != 11 {
		t.Errorf("Gen %d, Epoch %d, Used %d, Size %d", b.c.Gen(), b.c.Epoch(), b.c.Used(), b.c.Field().Size())
	}
	b.again(t, nil)
	if b.c.Epoch() != 2 || b.c.Gen() != 1 {
		t.Errorf("Gen %d, Epoch %d", b.c.Gen(), b.c.Epoch())
	}
	b.wantAll(t)
}

// P27.3, P27.4: tenants of all numbers, added in some order, that write, commit, abort, change their keys and limits, and go.
func TestTenants(t *testing.T) {
	b := fresh(t, 300)
	for _, id := range []int{8, 3, 1, 5, 2, 7, 4, 6} {
		b.add(t, id, id, 8, api.OK)
		b.create(t, id, id, 5)
		b.write(t, id, id, 0, api.OK)
		b.want(t)
	}
	b.wantAll(t)
	for _, id := range []int{2, 8, 1} {
		b.commit(t, id)
		b.write(t, id, id, 0, api.OK)
		b.write(t, id, id, 4, api.OK)
		b.want(t)
	}
	b.wantAll(t)
	for _, id := range []int{1, 2, 3} {
		b.abort(t, id)
		b.want(t)
	}
	b.rotate(t, 2)
	b.limit(t, 2, 0, 1)
	b.write(t, 8, 8, 1, api.OK)
	b.commit(t, 8)
	b.wantAll(t)
	for _, id := range []int{5, 1, 2} {
		b.shred(t, id)
		b.want(t)
	}
	b.wantAll(t)
	b.add(t, 2, 3, 3, api.OK)
	b.wantAll(t)
	b.again(t, nil)
	b.wantAll(t)
}

// P27.3: Used is how many nodes there are: none without tenants, and none behind the last one.
func TestUsed(t *testing.T) {
	b := fresh(t, 100)
	last := 0
	rises := func() {
		t.Helper()
		if got := b.c.Used(); got <= last {
			t.Errorf("Used: %d, and was %d", got, last)
		}
		last = b.c.Used()
	}
	b.add(t, 1, 0, 9, api.OK)
	rises()
	b.create(t, 1, 1, 50)
	rises()
	for block := range 9 {
		b.write(t, 1, 1, block, api.OK)
	}
	rises()
	b.commit(t, 1)
	used := b.c.Used()
	b.again(t, nil)
	if b.c.Used() != used {
		t.Errorf("Used behind a mount: %d, want %d", b.c.Used(), used)
	}
	b.shred(t, 1)
	if b.c.Used() != 0 {
		t.Errorf("Used behind the last tenant: %d", b.c.Used())
	}
}

// P27.3: the field, and a tenant, are handed out as one and the same; lists are new memory.
func TestHandedOut(t *testing.T) {
	b := peopled(t)
	if b.c.Field() != b.c.Field() || b.tenant(t, 2) != b.tenant(t, 2) || b.view(t, 2).Tenant() != b.tenant(t, 2) {
		t.Error("other objects are handed out")
	}
	l := b.c.Tenants()
	clear(l)
	_ = append(l[:0], 7, 7, 7, 7)
	b.want(t)
}

// P27.3: Check tells what Get of the pool does.
func TestCheck(t *testing.T) {
	b := peopled(t)
	at, written, e := b.tenant(t, 1).Block(1, 0)
	if !written || e != api.OK {
		t.Fatalf("Block: %v, %v", written, e)
	}
	size := uint32(b.c.Field().Size())
	wantCode(t, "Check", b.c.Check(at.Ref), api.OK)
	other := at.Ref
	other.Sum[31] ^= 1
	wantCode(t, "Check", b.c.Check(other), api.ErrIntegrity)
	for _, sector := range []uint32{size, size + 1, 200, 1 << 31, math.MaxUint32} {
		wantCode(t, "Check", b.c.Check(api.Ref{Sector: sector, Sum: at.Ref.Sum}), api.ErrArg)
	}
	turned(t, b.d, 200-size+at.Ref.Sector, func() { wantCode(t, "Check", b.c.Check(at.Ref), api.ErrIntegrity) })
	down(t, b.d)
	wantCode(t, "Check", b.c.Check(at.Ref), api.ErrDown)
	wantCode(t, "Check", b.c.Check(api.Ref{Sector: size}), api.ErrArg)
}

// P27.4: numbers that no tenant has, whatever else is wrong.
func TestNoTenant(t *testing.T) {
	b := peopled(t)
	asks := func(id int, add api.Errno) {
		t.Helper()
		wantCode(t, "Commit", b.c.Commit(id), api.ErrTenant)
		wantCode(t, "Abort", b.c.Abort(id), api.ErrTenant)
		wantCode(t, "Shred", b.c.Shred(id), api.ErrTenant)
		for _, limits := range [][2]int{{0, 0}, {-1, 0}, {1, 0}, {0, 9999}, {40, 45}} {
			wantCode(t, "Limit", b.c.Limit(id, limits[0], limits[1]), api.ErrTenant)
			if add != api.OK {
				wantCode(t, "Add", b.c.Add(id, keyOf(1), keyOf(1), [32]byte{}, limits[0], limits[1]), add)
			}
		}
		for _, key := range []api.Key{{}, b.l[1].outer, b.l[2].outer} {
			wantCode(t, "Rotate", b.c.Rotate(id, key, key, [32]byte{}), api.ErrTenant)
			v, e := b.c.Open(id, key)
			wantCode(t, "Open", e, api.ErrTenant)
			if v != nil {
				t.Fatal("there is a view")
			}
		}
	}
	all := func() {
		t.Helper()
		for _, id := range []int{math.MinInt, math.MinInt + 1, -1 << 32, -8, -1, 0, 9, 10, 16, 255, 256, 257, 1 << 31, 1 << 32, 1<<32 + 1, 1 << 62, math.MaxInt - 1, math.MaxInt} {
			asks(id, api.ErrTenant)
		}
		for _, id := range []int{3, 4, 6, 7} {
			asks(id, api.OK)
		}
	}
	before := b.account(t)
	all()
	b.wantAccount(t, before)
	b.wantAll(t)
	down(t, b.d)
	all()
	up(t, b.d)
	b.want(t)
}

// P27.4: Add of a tenant that there is; of limits that may not be; of more than there is: each is told ahead of what comes behind it, and nothing has changed.
func TestAddRefused(t *testing.T) {
	b := peopled(t)
	size := b.c.Field().Size()
	before := b.account(t)
	slack := b.c.Field().Slack()
	refuse := func() {
		t.Helper()
		for _, id := range []int{1, 2, 5, 8} {
			for _, limits := range [][2]int{{0, 0}, {0, 5}, {-1, 0}, {1, 0}, {0, size + 1}, {size, size}, {math.MinInt, math.MaxInt}} {
				wantCode(t, "Add", b.c.Add(id, keyOf(1), keyOf(2), [32]byte{}, limits[0], limits[1]), api.ErrThere)
			}
		}
		for _, limits := range [][2]int{{-1, 0}, {-1, -1}, {0, -1}, {1, 0}, {0, size + 1}, {size + 1, size + 1}, {size, size - 1}, {0, math.MaxInt}, {math.MinInt, 1}, {math.MaxInt, math.MinInt}} {
			wantCode(t, "Add", b.c.Add(3, keyOf(1), keyOf(2), [32]byte{}, limits[0], limits[1]), api.ErrArg)
		}
		for _, reserve := range []int{slack + 1, slack + 2, size} {
			wantCode(t, "Add", b.c.Add(3, keyOf(1), keyOf(2), [32]byte{}, reserve, size), api.ErrPool)
		}
	}
	refuse()
	b.wantAccount(t, before)
	b.wantAll(t)
	down(t, b.d)
	refuse()
	wantCode(t, "Add", b.c.Add(3, keyOf(1), keyOf(2), [32]byte{}, 0, 0), api.ErrDown)
	up(t, b.d)
	b.wantAccount(t, before)
	wantCode(t, "Admit", b.c.Field().Admit(7, 0, 0), api.OK) // by somebody else
	wantCode(t, "Add", b.c.Add(7, keyOf(1), keyOf(2), [32]byte{}, 0, 0), api.ErrThere)
	wantCode(t, "Add", b.c.Add(7, keyOf(1), keyOf(2), [32]byte{}, 1, 0), api.ErrArg)
	wantCode(t, "Remove", b.c.Field().Remove(7), api.OK)
	b.wantAccount(t, before)
	b.wantAll(t)
	b.add(t, 3, slack, size, api.OK)
	b.add(t, 4, 1, 1, api.ErrPool)
	b.add(t, 4, 0, 0, api.OK)
	b.wantAll(t)
}

// P27.4: what Add writes, by hand.
func TestAddWrites(t *testing.T) {
	b := fresh(t, 100)
	b.add(t, 3, 1, 7, api.OK)
	got, e := b.d.Sure(6)
	wantCode(t, "Sure", e, api.OK)
	if !bytes.Equal(got, b.l[3].slot()) {
		t.Error("the slot does not stand in the first place of the tenant")
	}
	b.wantHead(t, 1)
	b.create(t, 3, 1, 9)
	b.commit(t, 3)
	b.wantHead(t, 0)
	b.again(t, nil)
	b.wantHead(t, 0)
	b.limit(t, 3, 2, 7)
	b.wantHead(t, 1)
	b.wantAll(t)
}

// P27.4: Open with the tenant's key, with its old one, with others', and with each digit of it turned.
func TestOpen(t *testing.T) {
	b := peopled(t)
	old := b.l[1].outer
	b.rotate(t, 1)
	for _, id := range []int{1, 2, 5, 8} {
		for other := range 9 {
			if u := b.l[other]; u == nil || other == id {
				continue
			}
			for _, key := range []api.Key{b.l[other].outer, b.l[other].master, b.l[id].master, api.Key(b.l[id].salt), old, {}} {
				v, e := b.c.Open(id, key)
				wantCode(t, "Open", e, api.ErrKey)
				if v != nil {
					t.Fatal("there is a view")
				}
			}
		}
	}
	key := b.l[1].outer
	for i := range 32 {
		key[i] ^= 1 << (i % 8)
		_, e := b.c.Open(1, key)
		wantCode(t, "Open", e, api.ErrKey)
		key[i] ^= 1 << (i % 8)
	}
	b.want(t)
}

// P27.4: views of one tenant see the same, and write with stamps of one counter; what is written is sealed with the master key.
func TestViews(t *testing.T) {
	b := fresh(t, 120)
	b.add(t, 4, 0, 20, api.OK)
	b.add(t, 6, 0, 20, api.OK)
	b.create(t, 4, 1, 9)
	b.create(t, 6, 1, 9)
	last := uint64(0)
	for block := range 8 {
		id := 4 + block%2*2
		delete(b.views, id) // so another one writes
		b.write(t, id, 1, block, api.OK)
		at, written, e := b.tenant(t, id).Block(1, block)
		if !written || e != api.OK || at.Stamp <= last || at.Stamp>>40 != b.c.Epoch() {
			t.Fatalf("Block: %v, %v, %v, behind the stamp %d", at, written, e, last)
		}
		last = at.Stamp
		got, e := b.d.Read(uint32(120-b.c.Field().Size()) + at.Ref.Sector)
		wantCode(t, "Read", e, api.OK)
		want, e := seal.Seal(b.l[id].master, 1, at.Stamp, text(b.writes))
		wantCode(t, "Seal", e, api.OK)
		if !bytes.Equal(got, want) {
			t.Fatal("what stands in the extent is not the block as it is sealed")
		}
	}
	b.want(t)
}

// P27.4: Commit and Abort, of one tenant and then another, and of one that has changed nothing.
func TestCommitAndAbort(t *testing.T) {
	b := peopled(t)
	b.commit(t, 5)
	b.wantAll(t)
	b.commit(t, 5)
	b.commit(t, 2)
	b.commit(t, 2)
	b.wantAll(t)
	b.abort(t, 2)
	b.abort(t, 1)
	b.abort(t, 1)
	b.wantAll(t)
	b.unsaved8(t)
	b.abort(t, 8)
	b.want(t)
	b.unsaved8(t)
	b.commit(t, 8)
	b.wantAll(t)
	b.again(t, nil)
	b.wantAll(t)
	for n := range b.l[1].kept.clone() {
		b.remove(t, 1, n)
	}
	b.want(t)
	b.commit(t, 1)
	b.wantAll(t)
	if got := b.c.Field().Charge(1); got != 0 {
		t.Errorf("the charge without volumes: %d", got)
	}
}

// unsaved8 does some things of the tenant 8 that are not committed.
func (b *bed) unsaved8(t *testing.T) {
	t.Helper()
	if _, there := b.l[8].working[1]; there {
		b.remove(t, 8, 1)
	}
	b.create(t, 8, 1, 3)
	b.write(t, 8, 1, 2, api.OK)
	b.write(t, 8, 2, 2, api.OK)
}

// P27.4, P27.7: keys are changed many times; the fresh key opens, and reads what the old one read, which opens no more, as none did that came ahead; the old slot is blank.
func TestRotate(t *testing.T) {
	b := peopled(t)
	old := b.l[1].clone()
	view := b.view(t, 1)
	keys := []api.Key{b.l[1].outer}
	for round := range 5 {
		b.rotate(t, 1)
		b.wantAll(t)
		for _, key := range keys {
			_, e := b.c.Open(1, key)
			wantCode(t, "Open with an old key", e, api.ErrKey)
			wantCode(t, "Rotate with an old key", b.c.Rotate(1, key, key, [32]byte{}), api.ErrKey)
		}
		keys = append(keys, b.l[1].outer)
		if round%2 == 0 {
			b.commit(t, 1)
			b.write(t, 1, 1, 0, api.OK)
		}
		wantState(t, view, b.l[1].working) // one that was opened with the first key is a view all the same
		b.again(t, nil)
		view = b.view(t, 1)
	}
	if slices.Equal(old.slot(), b.l[1].slot()) {
		t.Error("the slot is the old one")
	}
	// The same key, with the same salt, and with another one.
	u := b.l[1]
	wantCode(t, "Rotate", b.c.Rotate(1, u.outer, u.outer, u.salt), api.OK)
	u.place = 1 - u.place
	b.gen++
	b.wantAll(t)
	wantCode(t, "Rotate", b.c.Rotate(1, u.outer, u.outer, [32]byte{1}), api.OK)
	u.salt, u.place = [32]byte{1}, 1-u.place
	b.gen++
	b.wantAll(t)
}

// P27.4: Limit to all that may be, and in the order of Resize's errors to what may not; a mount has the limits that were committed.
func TestLimit(t *testing.T) {
	b := peopled(t)
	size := b.c.Field().Size()
	charge := b.l[1].charge()
	slack := b.c.Field().Slack() + max(charge, b.l[1].reserve)
	before := b.account(t)
	refuse := func() {
		t.Helper()
		for _, limits := range [][2]int{{-1, 0}, {-1, size}, {0, -1}, {1, 0}, {size, size - 1}, {0, size + 1}, {size + 1, size + 1}, {math.MinInt, 5}, {0, math.MaxInt}, {math.MaxInt, math.MinInt}} {
			wantCode(t, "Limit", b.c.Limit(1, limits[0], limits[1]), api.ErrArg)
		}
		for _, limits := range [][2]int{{0, 0}, {0, charge - 1}, {charge - 1, charge - 1}} {
			wantCode(t, "Limit", b.c.Limit(1, limits[0], limits[1]), api.ErrQuota)
		}
		for _, reserve := range []int{slack + 1, size} {
			wantCode(t, "Limit", b.c.Limit(1, reserve, size), api.ErrPool)
		}
	}
	refuse()
	b.wantAccount(t, before)
	b.wantAll(t)
	down(t, b.d)
	refuse()
	wantCode(t, "Limit", b.c.Limit(1, 0, charge), api.ErrDown)
	up(t, b.d)
	b.wantAccount(t, before)
	for _, limits := range [][2]int{{0, charge}, {charge, charge}, {slack, size}, {slack, slack}, {0, size}, {3, 20}} {
		b.limit(t, 1, limits[0], limits[1])
		b.want(t)
	}
	b.wantAll(t)
	b.limit(t, 5, 0, 0)
	b.wantAll(t)
	b.again(t, nil)
	b.wantAll(t)
}

// P27.4: limits that are committed are those that writes are held against.
func TestLimitHolds(t *testing.T) {
	b := fresh(t, 64)
	b.add(t, 1, 0, 2, api.OK)
	b.add(t, 2, 9, 11, api.OK)
	b.create(t, 1, 1, 9)
	b.create(t, 2, 1, 20)
	b.write(t, 1, 1, 0, api.OK)
	b.write(t, 1, 1, 1, api.OK)
	b.write(t, 1, 1, 2, api.ErrQuota)
	b.limit(t, 1, 0, 3)
	b.write(t, 1, 1, 2, api.ErrPool)
	b.limit(t, 2, 8, 11)
	b.write(t, 1, 1, 2, api.OK)
	for block := range 8 {
		b.write(t, 2, 1, block, api.OK)
	}
	b.write(t, 2, 1, 8, api.ErrPool)
	b.wantAll(t)
	b.commit(t, 1)
	b.commit(t, 2)
	b.again(t, nil)
	b.write(t, 1, 1, 3, api.ErrQuota)
	b.write(t, 2, 1, 8, api.ErrPool)
	b.wantAll(t)
}
