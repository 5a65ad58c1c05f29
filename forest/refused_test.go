package forest_test

import (
	"testing"

	"casemate/api"
	"casemate/entry"
)

// change is one change of a forest, and of a plain one.
type change struct {
	name string
	do   func(b *both) api.Errno
	then func(p plain)
}

// changes is changes of each kind of a forest that has some tenants.
func changes() []change {
	var l []change
	for number := 1; number <= 8; number++ {
		x := some(30 + number)
		l = append(l, change{"Put", func(b *both) api.Errno { return b.f.Put(number, x.root, x.tenant) }, func(p plain) { p[number] = x }})
	}
	for number := 1; number <= 8; number += 2 {
		l = append(l, change{"Del", func(b *both) api.Errno { return b.f.Del(number) }, func(p plain) { delete(p, number) }})
	}
	return l
}

// grounds is forests with some tenants, and with all; both have those that changes takes away.
func grounds(t *testing.T) []*both {
	t.Helper()
	return []*both{grown(t, 40, 5, 1, 7, 3), grown(t, 40, everyone()...)}
}

// tries does a change: was it done? If not, it must tell that error, and leave all as it is.
func (b *both) tries(t *testing.T, c change, want api.Errno) bool {
	t.Helper()
	root, used := b.f.Root(), b.s.Used()
	e := c.do(b)
	if e == api.OK {
		c.then(b.p)
		return true
	}
	wantCode(t, c.name, e, want)
	if b.f.Root() != root || b.s.Used() != used || b.s.Sweep() != 0 {
		t.Fatalf("%s: the root is %v, and was %v; the store keeps %d nodes, and kept %d", c.name, b.f.Root(), root, b.s.Used(), used)
	}
	return false
}

// P26.2: in a store that has no room a change is refused as a whole, with each number of free sectors up to that with which it is done.
func TestFull(t *testing.T) {
	for _, c := range changes() {
		for _, b := range grounds(t) {
			l := fill(t, b.s)
			missing := 0
			for !b.tries(t, c, api.ErrFull) {
				b.wantTold(t)
				drop(t, b.s, l[missing:missing+1])
				missing++
			}
			if missing < 1 || missing > 12 {
				t.Errorf("%s needs %d sectors", c.name, missing)
			}
			drop(t, b.s, l[missing:])
			b.want(t)
		}
	}
}

// P26.2: a disk that goes down at any of a change's writes: all is as it was, whatever of those that waited is kept.
func TestDownInTheMidst(t *testing.T) {
	for _, c := range changes() {
		for _, b := range grounds(t) {
			wantCode(t, "Flush", b.d.Flush(), api.OK)
			writes := 0
			for ; ; writes++ {
				wantCode(t, "Fail", b.d.Fail(writes), api.OK)
				if b.tries(t, c, api.ErrDown) {
					break
				}
				wantCode(t, "Crash", b.d.Crash([]byte{byte(writes * 85)}), api.OK)
				b.wantTold(t)
			}
			if writes < 1 {
				t.Errorf("%s needs no write", c.name)
			}
			wantCode(t, "Crash", b.d.Crash([]byte{255, 255}), api.OK)
			b.want(t)
		}
	}
}

// P26.2: while the disk is down, all that needs the tree tells it; the root and clones do not.
func TestDown(t *testing.T) {
	b := grown(t, 40, everyone()...)
	root := b.f.Root()
	down(t, b.d)
	for _, c := range changes() {
		if b.tries(t, c, api.ErrDown) {
			t.Fatal("a change was done")
		}
	}
	r, x, e := b.f.Get(1)
	if r != (entry.Root{}) || x != (entry.Tenant{}) || e != api.ErrDown {
		t.Errorf("Get: %v, %v, %v", r, x, e)
	}
	if l, e := b.f.Tenants(); len(l) != 0 || e != api.ErrDown {
		t.Errorf("Tenants: %v, %v", l, e)
	}
	c := b.clone(t)
	if b.f.Root() != root || c.f.Root() != root {
		t.Error("the root is another one")
	}
	up(t, b.d)
	c.wantTold(t)
	wantCode(t, "Free", c.f.Free(), api.OK)
	b.want(t)
}

// P26.2: whichever node is turned, what is told is right, or an error; a change is done as a whole, or refused.
func TestTurned(t *testing.T) {
	right, wrong, done, refused := 0, 0, 0, 0
	for _, c := range changes() {
		b := grown(t, 40, everyone()...)
		all := map[uint32]int{}
		sectors(t, b.s, b.f.Root(), all)
		for sector := range all {
			is := false
			turned(t, b.d, sector, func() {
				for number, want := range b.p {
					switch r, x, e := b.f.Get(number); {
					case e == api.OK && r == want.root && x == want.tenant:
						right++
					case e == api.ErrIntegrity && r == entry.Root{} && x == entry.Tenant{}:
						wrong++
					default:
						t.Fatalf("Get(%d): %v, %v, %v", number, r, x, e)
					}
				}
				if l, e := b.f.Tenants(); len(l) != 0 || e != api.ErrIntegrity {
					t.Fatalf("Tenants: %v, %v", l, e)
				}
				is = b.tries(t, c, api.ErrIntegrity)
			})
			if !is {
				b.want(t)
				refused++
				continue
			}
			done++
			b = grown(t, 40, everyone()...)
		}
	}
	if right < 50 || wrong < 100 || done < 5 || refused < 20 {
		t.Errorf("%d right, %d wrong; %d done, %d refused", right, wrong, done, refused)
	}
}

// P1: forests whose root somebody else dropped, or whose tree somebody else freed: all calls end, and none panics.
func TestStolen(t *testing.T) {
	for _, steal := range []func(b *both){
		func(b *both) { b.s.Drop(b.f.Root().Ref) },
		func(b *both) { b.f.Tree.Free() },
		func(b *both) { b.f.Tree = nil },
	} {
		b, o := grown(t, 40, everyone()...), grown(t, 40, 1)
		for range 3 {
			steal(b)
			for _, c := range changes() {
				c.do(b)
			}
			b.f.Get(1)
			b.f.Tenants()
			c := b.f.Clone()
			c.Tenants()
			b.f.Become(c)
			b.f.Become(o.f)
			o.f.Become(b.f)
		}
		b.f.Free()
		wantNil(t, b.f)
	}
}
