package scrub_test

import (
	"reflect"
	"testing"
	"unsafe"

	"casemate/api"
	"casemate/entry"
	"casemate/extent"
	"casemate/scrub"
)

// P32.2, P32.4, P7: the books are right ahead of each kind of change and behind it, and nothing is bad: writes, what is written over, discards, volumes that come, go, grow and shrink, snapshots, aborts, commits, limits, fresh keys, what is refused, shreds, crashes.
func TestBooks(t *testing.T) {
	b := fresh(t, 200)
	b.wantAll(t)
	u, w := b.add(t, 1, 20), b.add(t, 7, 9)
	b.wantAll(t)
	steps := []func(){
		func() { u.create(t, 2, 9); w.create(t, 8, 256) },
		func() { b.put(t, u, 2, 0, 1, 2, 8) },
		func() { b.put(t, w, 8, 255) },
		func() { b.put(t, u, 2, 1) },
		func() { b.commit(t, u) },
		func() { b.put(t, u, 2, 1, 3) },
		func() { u.snapshot(t, 2, 1) },
		func() { b.put(t, u, 2, 2) },
		func() { u.discard(t, 1, 2) },
		func() { u.snapshot(t, 1, 5) },
		func() { b.commit(t, u) },
		func() { u.resize(t, 2, 2) },
		func() { u.resize(t, 2, 5) },
		func() { u.remove(t, 5) },
		func() { b.abort(t, u) },
		func() { u.remove(t, 1); b.commit(t, u) },
		func() { wantCode(t, "Limit", b.c.Limit(1, 9, 30), api.OK) },
		func() { wantCode(t, "Rotate", b.c.Rotate(7, keyOf(7), keyOf(9), [32]byte{}), api.OK) },
		func() { wantCode(t, "Rotate", b.c.Rotate(7, keyOf(9), keyOf(7), [32]byte{}), api.OK) },
		func() { b.put(t, w, 8, 1, 2, 3, 4, 5, 6, 7, 8) },
		func() { wantCode(t, "Write", w.v.Write(8, 9, text(1)), api.ErrQuota) },
		func() { wantCode(t, "Shred", b.c.Shred(3), api.ErrTenant) },
		func() { b.commit(t, w); w.remove(t, 8); w.create(t, 3, 3) },
		func() { wantCode(t, "Write", w.v.Write(3, 1, text(1)), api.ErrQuota) },
		func() { wantCode(t, "Crash", b.d.Crash([]byte{0x55}), api.OK); b.mount(t) },
		func() { w.discard(t, 8, 1); b.put(t, u, 2, 0) },
		func() { b.shred(t, 1) },
		func() { u = b.add(t, 1, 5); u.create(t, 1, 1); b.put(t, u, 1, 0) },
		func() { wantCode(t, "Crash", b.d.Crash(nil), api.OK); b.mount(t) },
		func() { b.shred(t, 7); b.shred(t, 1) },
	}
	for _, step := range steps {
		step()
		b.wantAll(t)
	}
}

// charge is where a field has a tenant's charge, in its own memory.
func charge(f *extent.Field, id int) *int {
	account := reflect.ValueOf(f).Elem().FieldByName("tenants").Index(id)
	return (*int)(unsafe.Pointer(account.FieldByName("charge").UnsafeAddr()))
}

// P32.2: charges that are not as many as the extents that are held, of whichever tenant, are told; they are laid into the field's own memory, since no call makes them. Only all together count.
func TestBooksWrong(t *testing.T) {
	b := peopled(t)
	f := b.c.Field()
	for _, id := range []int{3, 5, 7} {
		wantCode(t, "Admit", f.Admit(id, 0, 1), api.OK)
	}
	for id := 1; id <= 8; id++ {
		was := *charge(f, id)
		for _, wrong := range []int{was + 1, was + 2, was - 1, 0} {
			*charge(f, id) = wrong
			if f.Charge(id) != wrong {
				t.Fatal("the charge was not laid")
			}
			if right, e := scrub.Books(b.c); right != (wrong == was) || e != api.OK {
				t.Errorf("Books, with the charge %d of %d: %v, %v", wrong, was, right, e)
			}
		}
		*charge(f, id) = was
		b.wantBooks(t)
	}
	*charge(f, 1)--
	*charge(f, 8)++
	b.wantBooks(t)
}

// P32.2: what the field has charged counts, whoever has it: also of a tenant that the core has not, and of the first extent and the last one; an extent that is held more than once counts once.
func TestBooksOfField(t *testing.T) {
	b := fresh(t, 82) // 16 extents
	f := b.c.Field()
	wantCode(t, "Admit", f.Admit(5, 0, 16), api.OK)
	for range 16 {
		b.wantBooks(t)
		n, e := f.Take(5)
		wantCode(t, "Take", e, api.OK)
		wantCode(t, "Hold", f.Hold(n), api.OK)
		b.wantBooks(t)
	}
	*charge(f, 5) = 15
	if right, e := scrub.Books(b.c); right || e != api.OK {
		t.Errorf("Books: %v, %v", right, e)
	}
}

// P32.2: a tenant that was shredded, but could not be freed since somebody turned a node of it, has its charges still, and what it held is held: the books are right.
func TestBooksOfGone(t *testing.T) {
	left, all := 0, peopled(t)
	for s := range all.nodes(t, all.l[8]) {
		b := peopled(t)
		was := b.c.Field().Charge(8)
		turned(t, b.d, s, func() {
			wantCode(t, "Shred", b.c.Shred(8), api.ErrIntegrity)
			b.wantBooks(t)
		})
		if _, e := b.c.Tenant(8); e == api.OK {
			b.wantAll(t) // it was refused
			continue
		}
		left++
		if got := b.c.Field().Charge(8); got != was {
			t.Errorf("the charge of what is gone: %d, want %d", got, was)
		}
		delete(b.l, 8)
		b.wantAll(t)
	}
	if left == 0 {
		t.Error("there was none that could not be freed")
	}
}

// P32.2: Books asks for no disk, and changes nothing.
func TestBooksDown(t *testing.T) {
	b := peopled(t)
	down(t, b.d)
	for range 2 {
		b.wantBooks(t)
	}
	*charge(b.c.Field(), 2)++
	if right, e := scrub.Books(b.c); right || e != api.OK {
		t.Errorf("Books: %v, %v", right, e)
	}
}

// P32.2: a block that is set from without, whose extent nobody holds, does not count.
func TestBooksOfSet(t *testing.T) {
	b := peopled(t)
	wantCode(t, "Set", b.l[6].tenant().Set(1, 0, entry.Block{Ref: api.Ref{Sector: uint32(b.c.Field().Size()) - 1}}), api.OK)
	b.wantBooks(t)
}
