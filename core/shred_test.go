package core_test

import (
	"bytes"
	"slices"
	"testing"

	"casemate/api"
	"casemate/disk"
	"casemate/entry"
	"casemate/keys"
	"casemate/node"
	"casemate/tenant"
	"casemate/thin"
)

// wantNowhere fails if a user's wrapped key, check or salt stands anywhere on a disk, for sure or shown.
func wantNowhere(t *testing.T, d *disk.Disk, u *user) {
	t.Helper()
	s := keys.Make(u.outer, u.master, u.salt)
	for sector := range uint32(d.Size()) {
		sure, e := d.Sure(sector)
		wantCode(t, "Sure", e, api.OK)
		shown, e := d.Read(sector)
		wantCode(t, "Read", e, api.OK)
		for _, part := range [][]byte{s.Wrapped[:], s.Check[:], s.Salt[:], u.master[:], u.outer[:]} {
			if bytes.Contains(sure, part) || bytes.Contains(shown, part) {
				t.Fatalf("% x stands at the sector %d", part, sector)
			}
		}
	}
}

// wantGone fails if a tenant that was shredded, or a view of it, does anything.
func wantGone(t *testing.T, x *tenant.Tenant, v *thin.View) {
	t.Helper()
	_, e := x.Volumes()
	_, f := v.Read(1, 0)
	_, g := v.Used(1)
	for _, e := range []api.Errno{e, f, g, v.Write(1, 0, text(1)), x.Free(), x.Abort()} {
		wantCode(t, "a call of a tenant that was shredded", e, api.ErrNil)
	}
	if x.ID() != 0 {
		t.Fatal("it has a number")
	}
}

// P27.4, P27.6, P9: behind Shred nothing of the tenant's slots is on the disk, in whichever copy it stood, and it has no extents and no limits any more; the others have what they had.
func TestShred(t *testing.T) {
	for _, id := range []int{1, 2, 5, 8} {
		b := peopled(t)
		old, x, v := b.l[id].clone(), b.tenant(t, id), b.view(t, id)
		if id == 8 {
			b.rotate(t, id)
			b.rotate(t, id)
			old = b.l[id].clone()
		}
		slack := b.c.Field().Slack() + max(old.charge(), old.reserve)
		b.shred(t, id)
		wantGone(t, x, v)
		wantNowhere(t, b.d, old)
		if b.c.Field().Slack() != slack {
			t.Fatalf("Slack: %d, want %d", b.c.Field().Slack(), slack)
		}
		b.wantAll(t)
		wantCode(t, "Shred", b.c.Shred(id), api.ErrTenant)
		b.add(t, id, old.reserve, old.quota, api.OK)
		b.create(t, id, 1, 5)
		b.write(t, id, 1, 0, api.OK)
		b.wantAll(t)
		_, e := b.c.Open(id, old.outer)
		wantCode(t, "Open with the key of one that was shredded", e, api.ErrKey)
		wantGone(t, x, v)
		b.again(t, nil)
		b.wantAll(t)
		wantNowhere(t, b.d, old)
	}
}

// P27.4: Shred blanks what stands in either place of the tenant's slot; where none is there it flushes no more than the commit does.
func TestShredBlanks(t *testing.T) {
	calls := func(prepare func(b *bed)) int {
		b := peopled(t)
		prepare(b)
		before := b.d.Calls()
		b.shred(t, 1)
		wantSlots(t, b.d, b.l)
		return b.d.Calls() - before
	}
	tamper := func(b *bed, s uint32, x []byte) { wantCode(t, "Tamper", b.d.Tamper(s, x), api.OK) }
	one := calls(func(*bed) {})
	both := calls(func(b *bed) { tamper(b, 3, text(7)) })
	none := calls(func(b *bed) { tamper(b, 2, make([]byte, 512)) })
	if both != one+1 || none != one-2 {
		t.Errorf("Shred takes %d calls, with both slots %d, with none %d", one, both, none)
	}
}

// nodesOf is where the nodes of a tenant's tree stand, from its root on.
func nodesOf(t *testing.T, d *disk.Disk, r entry.Root) []uint32 {
	t.Helper()
	var l []uint32
	row := []api.Ref{r.Ref}
	if !r.Has {
		return nil
	}
	for ; len(row) > 0; row = row[1:] {
		l = append(l, row[0].Sector)
		b, e := d.Read(row[0].Sector)
		wantCode(t, "Read", e, api.OK)
		n, e := node.Read(b)
		wantCode(t, "node.Read", e, api.OK)
		row = append(row, n.Kids...)
	}
	return l
}

// P27.4, P27.6, P9: a tenant of whose tree somebody turned a node: Shred is refused, and nothing has changed; or it is gone with its slots, though what it held can't be told till the next mount.
func TestShredTurned(t *testing.T) {
	refused, gone := 0, 0
	for _, changed := range []bool{false, true} {
		for i := 0; ; i++ {
			b := peopled(t)
			b.commit(t, 2)
			if changed {
				b.write(t, 2, 1, 0, api.OK)
			}
			l := nodesOf(t, b.d, b.tenant(t, 2).Root())
			if i == len(l) {
				break
			}
			old := b.l[2].clone()
			before := b.account(t)
			turned(t, b.d, l[i], func() {
				wantCode(t, "Shred", b.c.Shred(2), api.ErrIntegrity)
			})
			if register(t, b.d).Gen == b.gen {
				refused++
				b.wantAccount(t, before)
				b.wantAll(t)
				b.shred(t, 2)
				b.wantAll(t)
				continue
			}
			gone++
			delete(b.l, 2)
			b.gen++
			wantNowhere(t, b.d, old)
			wantSlots(t, b.d, b.l)
			if x, e := b.c.Tenant(2); x != nil || e != api.ErrTenant || !slices.Equal(b.c.Tenants(), b.l.list()) {
				t.Fatalf("Tenant: %v, %v", x, e)
			}
			for _, id := range b.l.list() {
				b.wantTenant(t, id)
			}
			b.wantLasts(t)
			b.again(t, nil)
			b.wantAll(t)
		}
	}
	if refused < 1 || gone < 3 {
		t.Errorf("%d were refused, %d gone", refused, gone)
	}
}

// P27.4: Shred of a tenant whose trees' differences can't be told changes nothing; it is told ahead of a store that has no room.
func TestShredChanges(t *testing.T) {
	b := crowded(t)
	b.fill(t, 7, 1, 256)
	b.fill(t, 4, 1, 256)
	before := b.account(t)
	for _, s := range nodesOf(t, b.d, b.tenant(t, 1).Root())[:1] {
		turned(t, b.d, s, func() {
			wantCode(t, "Shred", b.c.Shred(1), api.ErrIntegrity)
			wantCode(t, "Commit", b.c.Commit(1), api.ErrIntegrity)
			wantCode(t, "Abort", b.c.Abort(1), api.ErrIntegrity)
		})
	}
	b.wantAccount(t, before)
	wantCode(t, "Shred", b.c.Shred(1), api.ErrFull)
	b.wantAccount(t, before)
}
