package core_test

import (
	"bytes"
	"math"
	"testing"

	"casemate/api"
	"casemate/core"
	"casemate/disk"
	"casemate/entry"
	"casemate/hashlog"
	"casemate/keys"
	"casemate/slot"
	"casemate/super"
)

// keeps is what a crash may keep of the writes that wait: nothing, all, and some.
func keeps() [][]byte {
	return [][]byte{nil, bytes.Repeat([]byte{255}, 99), bytes.Repeat([]byte{0x55}, 99), bytes.Repeat([]byte{0xaa}, 99), {1}, {2}, bytes.Repeat([]byte{0x6d, 0xdb, 0xb6}, 33)}
}

// wantNoCore fails if a disk is mounted, or if another error is told, or the disk is changed.
func wantNoCore(t *testing.T, d *disk.Disk, want api.Errno) {
	t.Helper()
	calls := d.Calls()
	for _, log := range []*hashlog.Log{nil, {}, hashlog.New()} {
		c, e := core.Mount(d, log)
		wantCode(t, "Mount", e, want)
		if c != nil || d.Calls() != calls {
			t.Fatal("there is a core, or the disk was changed")
		}
	}
}

// P27.2: the document's example: a disk that was not formatted, whatever stands on it. One that is down.
func TestNotFormatted(t *testing.T) {
	for _, sectors := range []int{64, 65, 500} {
		wantNoCore(t, blankDisk(t, sectors), api.ErrState)
		d := noisy(t, sectors)
		wantCode(t, "SetReg", d.SetReg([64]byte{}), api.OK)
		wantNoCore(t, d, api.ErrState)
		down(t, d)
		wantNoCore(t, d, api.ErrDown)
		d = formatted(t, sectors)
		down(t, d)
		wantNoCore(t, d, api.ErrDown)
	}
}

// P27.2: logs that are none make a core, whose Clash is none.
func TestNoLog(t *testing.T) {
	d := shown(t, peopled(t).d)
	for _, log := range []*hashlog.Log{nil, {}} {
		c, e := core.Mount(d, log)
		wantCode(t, "Mount", e, api.OK)
		if c.Clash() || len(c.Tenants()) != 4 {
			t.Error("there is a clash, or there are no tenants")
		}
		wantCode(t, "Commit", c.Commit(1), api.OK)
	}
}

// P27.2: registers that are none: all that is turned in one byte is none, or names something that is not there.
func TestRegister(t *testing.T) {
	b := peopled(t)
	b.commit(t, 1)
	right, e := b.d.Reg()
	wantCode(t, "Reg", e, api.OK)
	for at := range right {
		for _, x := range []byte{1, 2, 128, 255} {
			reg := right
			reg[at] ^= x
			wantCode(t, "SetReg", b.d.SetReg(reg), api.OK)
			switch {
			case at < 40 || at >= 48: // the sum, Gen, Which, or what stands behind
				wantNoCore(t, b.d, api.ErrIntegrity)
			case at < 45: // an Epoch that is too great
				wantNoCore(t, b.d, api.ErrFull)
			}
		}
	}
	wantCode(t, "SetReg", b.d.SetReg(right), api.OK)
	b.again(t, nil)
	b.wantAll(t)
}

// P27.2: what the register names: a head of another sum, none, one of another Gen; at both places.
func TestNamed(t *testing.T) {
	for which := range uint8(2) {
		h := byHand(t)
		good := super.Head{Gen: 7}
		h.head(t, which, good, 3)
		wantAnew(t, shown(t, h.d), users{}, 0)
		turned(t, h.d, uint32(which), func() { wantNoCore(t, h.d, api.ErrIntegrity) })
		replaced(t, h.d, uint32(which), make([]byte, 512), func() { wantNoCore(t, h.d, api.ErrIntegrity) })
		other := byHand(t)
		b, e := super.Write(super.Head{Gen: 8})
		wantCode(t, "super.Write", e, api.OK)
		for _, gen := range []uint64{0, 7, 9, math.MaxUint64} {
			other.names(t, b, super.Register{Sum: hashlog.New().Sum(b), Gen: gen, Which: which})
			wantNoCore(t, other.d, api.ErrIntegrity)
			other.names(t, b, super.Register{Sum: hashlog.New().Sum(b), Gen: gen, Epoch: math.MaxUint64, Which: which})
			wantNoCore(t, other.d, api.ErrIntegrity)
		}
		for _, b := range [][]byte{make([]byte, 512), bytes.Repeat([]byte{67}, 512), text(9)} {
			other.names(t, b, super.Register{Sum: hashlog.New().Sum(b), Which: which})
			wantNoCore(t, other.d, api.ErrIntegrity)
		}
	}
}

// P27.2: the head's own Epoch is none of a mount's; it may be of any Gen, and of 2^64 - 1 there is no next one.
func TestGen(t *testing.T) {
	for _, gen := range []uint64{0, 1, 2, 1 << 40, math.MaxUint64 - 1, math.MaxUint64} {
		for _, epoch := range []uint64{0, 5, math.MaxUint64} {
			h := byHand(t)
			h.head(t, 1, super.Head{Gen: gen, Epoch: epoch}, 9)
			b := mount(t, h.d, users{}, 0)
			if b.c.Epoch() != 10 || b.c.Gen() != gen {
				t.Fatalf("Epoch %d, Gen %d", b.c.Epoch(), b.c.Gen())
			}
			b.wantAll(t)
			want := api.OK
			if gen == math.MaxUint64 {
				want = api.ErrFull
			}
			b.add(t, 3, 1, 2, want)
			b.wantAll(t)
		}
	}
}

// P27.4, P27.5: what is refused since there is no next Gen changes nothing.
func TestLastGen(t *testing.T) {
	h := byHand(t)
	h.head(t, 0, super.Head{Gen: math.MaxUint64 - 1}, 0)
	b := mount(t, h.d, users{}, 0)
	b.add(t, 3, 2, 9, api.OK)
	b.create(t, 3, 1, 5)
	b.write(t, 3, 1, 2, api.OK)
	before := b.account(t)
	wantCode(t, "Commit", b.c.Commit(3), api.ErrFull)
	wantCode(t, "Limit", b.c.Limit(3, 1, 8), api.ErrFull)
	wantCode(t, "Rotate", b.c.Rotate(3, b.l[3].outer, keyOf(1), [32]byte{}), api.ErrFull)
	wantCode(t, "Shred", b.c.Shred(3), api.ErrFull)
	wantCode(t, "Add", b.c.Add(4, keyOf(1), keyOf(2), [32]byte{}, 1, 1), api.ErrFull)
	b.wantAccount(t, before)
	b.wantAll(t)
	b.abort(t, 3)
	b.wantAll(t)
	b.again(t, nil)
	b.wantAll(t)
}

// P27.2: each mount's epoch is one greater than the last one's, up to the greatest one that a counter has.
func TestEpoch(t *testing.T) {
	h := byHand(t)
	for _, epoch := range []uint64{0, 1, 255, 65535, 1<<24 - 3, 1<<24 - 2} {
		h.head(t, 0, super.Head{Gen: 5, Epoch: 3}, epoch)
		for want := epoch + 1; want < min(epoch+4, 1<<24); want++ {
			b := mount(t, h.d, users{}, 0)
			if b.c.Epoch() != want || register(t, h.d) != (super.Register{Sum: register(t, h.d).Sum, Gen: 5, Epoch: want}) {
				t.Fatalf("Epoch %d, %v, want %d", b.c.Epoch(), register(t, h.d), want)
			}
		}
	}
	wantNoCore(t, h.d, api.ErrFull)
	for _, epoch := range []uint64{1<<24 - 1, 1 << 24, 1 << 32, 1 << 40, 1 << 63, math.MaxUint64 - 1, math.MaxUint64} {
		h.head(t, 0, super.Head{Gen: 5}, epoch)
		wantNoCore(t, h.d, api.ErrFull)
		h.head(t, 0, super.Head{Gen: 5, Has: true, Root: api.Ref{Sector: 20}}, epoch) // told ahead of the root
		wantNoCore(t, h.d, api.ErrFull)
	}
}

// P27.2: errors of Open, of the forest and of tenants, and of Admit.
func TestOpenErrors(t *testing.T) {
	fine := entry.Tenant{Reserve: 1, Quota: 9}
	for i, c := range []struct {
		want api.Errno
		make func(h *hand) super.Head
	}{
		{api.OK, func(h *hand) super.Head {
			h.put(t, 1, h.tree(t, 1, 3), fine)
			h.put(t, 8, h.tree(t, 8, 4), fine)
			return h.rooted(1)
		}},
		{api.ErrIntegrity, func(h *hand) super.Head { return super.Head{Has: true, Root: api.Ref{Sector: 20}} }},
		{api.ErrArg, func(h *hand) super.Head { return super.Head{Has: true, Root: api.Ref{Sector: 17}} }},
		{api.ErrArg, func(h *hand) super.Head { return super.Head{Has: true, Root: api.Ref{Sector: 66}} }},
		{api.ErrIntegrity, func(h *hand) super.Head { return super.Head{Has: true, Root: api.Ref{Sector: 65}} }},
		{api.ErrIntegrity, func(h *hand) super.Head { // a forest that is a tenant's tree
			r := h.tree(t, 1, 3)
			return super.Head{Has: true, Root: r.Ref}
		}},
		{api.ErrIntegrity, func(h *hand) super.Head { // a tenant whose tree is not there
			h.put(t, 1, entry.Root{Has: true, Ref: api.Ref{Sector: 50}}, fine)
			return h.rooted(1)
		}},
		{api.ErrArg, func(h *hand) super.Head { // one whose tree is outside the store
			h.put(t, 1, entry.Root{Has: true, Ref: api.Ref{Sector: 5}}, fine)
			return h.rooted(1)
		}},
		{api.ErrIntegrity, func(h *hand) super.Head { // one whose tree is a forest
			h.put(t, 1, entry.Root{}, fine)
			r := h.f.Root()
			h.put(t, 1, r, fine)
			return h.rooted(1)
		}},
		{api.ErrArg, func(h *hand) super.Head { // a block in an extent that there is not
			h.put(t, 1, h.tree(t, 1, 16), fine)
			return h.rooted(1)
		}},
		{api.ErrQuota, func(h *hand) super.Head {
			h.put(t, 1, h.tree(t, 1, 3), entry.Tenant{})
			return h.rooted(1)
		}},
		{api.ErrPool, func(h *hand) super.Head { // no room for what it has beside what 1 has for sure
			h.put(t, 1, entry.Root{}, entry.Tenant{Reserve: 16, Quota: 16})
			h.put(t, 2, h.tree(t, 2, 3), entry.Tenant{Quota: 9})
			return h.rooted(1)
		}},
		{api.ErrPool, func(h *hand) super.Head {
			h.put(t, 1, entry.Root{}, entry.Tenant{Reserve: 9, Quota: 9})
			h.put(t, 2, entry.Root{}, entry.Tenant{Reserve: 8, Quota: 9})
			return h.rooted(1)
		}},
		{api.ErrArg, func(h *hand) super.Head {
			h.put(t, 3, entry.Root{}, entry.Tenant{Reserve: 2, Quota: 1})
			return h.rooted(1)
		}},
		{api.ErrArg, func(h *hand) super.Head {
			h.put(t, 3, entry.Root{}, entry.Tenant{Quota: 17})
			return h.rooted(1)
		}},
	} {
		h := byHand(t)
		h.head(t, 0, c.make(h), 4)
		if c.want != api.OK {
			wantNoCore(t, h.d, c.want)
			continue
		}
		x, e := core.Mount(h.d, hashlog.New())
		if e != api.OK || len(x.Tenants()) != 2 || x.Field().Charge(1) != 1 || x.Epoch() != 5 {
			t.Fatalf("the case %d: %v", i, e)
		}
	}
}

// P27.2, P27.4: a slot that has the sum that the forest has, but is none; one whose check is right, but not its wrapped key; one in each place.
func TestSlotsByHand(t *testing.T) {
	for which := range 2 {
		right := keys.Make(keyOf(1), keyOf(2), keyOf(3))
		wrong := right
		wrong.Wrapped[39] ^= 1
		for _, c := range []struct {
			b    []byte
			want api.Errno
		}{
			{slot.Write(right), api.OK},
			{slot.Write(wrong), api.ErrIntegrity},
			{make([]byte, 512), api.ErrIntegrity},
			{text(7), api.ErrIntegrity},
		} {
			h := byHand(t)
			h.put(t, 6, entry.Root{}, entry.Tenant{Slot: hashlog.New().Sum(c.b), Quota: 5, Copy: which})
			wantCode(t, "Write", h.d.Write(uint32(12+which), c.b), api.OK)
			h.head(t, 0, h.rooted(1), 4)
			x, e := core.Mount(h.d, hashlog.New())
			wantCode(t, "Mount", e, api.OK)
			v, e := x.Open(6, keyOf(1))
			wantCode(t, "Open", e, c.want)
			if (v != nil) != (c.want == api.OK) {
				t.Fatalf("Open: %v", v)
			}
			if c.want != api.OK {
				wantCode(t, "Rotate", x.Rotate(6, keyOf(1), keyOf(4), keyOf(3)), c.want)
				continue
			}
			_, e = x.Open(6, keyOf(2))
			wantCode(t, "Open", e, api.ErrKey)
			wantCode(t, "Rotate", x.Rotate(6, keyOf(2), keyOf(4), keyOf(3)), api.ErrKey)
			wantCode(t, "Rotate", x.Rotate(6, keyOf(1), keyOf(4), keyOf(3)), api.OK)
			_, e = x.Open(6, keyOf(4))
			wantCode(t, "Open", e, api.OK)
		}
	}
}

// litter puts slots, and other things, where none are to be: of tenants that there are not, and the other copy of those that there are. It tells how many.
func (b *bed) litter(t *testing.T) int {
	t.Helper()
	count := 0
	for id := 1; id <= api.MaxTenants; id++ {
		for which := range 2 {
			if u := b.l[id]; u != nil && u.place == which {
				continue
			}
			s, e := slot.Place(id, which)
			wantCode(t, "Place", e, api.OK)
			wantCode(t, "Tamper", b.d.Tamper(s, slot.Write(keys.Make(keyOf(id), keyOf(7), keyOf(which)))), api.OK)
			count++
		}
	}
	return count
}

// P27.2: slots of tenants that the forest has not, and of the copy that it does not name, are blanked by a mount, and flushed; where none is there it just sets the register.
func TestBlanks(t *testing.T) {
	b := peopled(t)
	for range 2 {
		b.again(t, nil)
		calls := b.d.Calls()
		b.again(t, nil)
		if got := b.d.Calls() - calls; got != 1 {
			t.Fatalf("a mount takes %d calls, want SetReg alone", got)
		}
		count := b.litter(t)
		calls = b.d.Calls()
		*b = *mount(t, b.d, b.l, b.writes)
		if got := b.d.Calls() - calls; got != count+2 || count != 12 || b.d.Waits() != 0 {
			t.Fatalf("a mount takes %d calls, want %d writes, Flush and SetReg", got, count)
		}
		b.wantAll(t)
		b.rotate(t, 1)
		b.rotate(t, 2)
	}
	// A slot in which one byte alone is not 0.
	wantCode(t, "Tamper", b.d.Tamper(7, append(make([]byte, 511), 1)), api.OK)
	calls := b.d.Calls()
	b.again(t, nil)
	if got := b.d.Calls() - calls; got != 3 {
		t.Fatalf("a mount takes %d calls", got)
	}
	b.wantAll(t)
}

// P27.2, P27.5: a mount that fails behind any of its writes: there is no core, the register is as it was, and the next one does all.
func TestMountDown(t *testing.T) {
	b := peopled(t)
	count := b.litter(t)
	for _, keep := range keeps() {
		for calls := range count + 2 {
			d := shown(t, b.d)
			before := register(t, d)
			wantCode(t, "Fail", d.Fail(calls), api.OK)
			c, e := core.Mount(d, hashlog.New())
			wantCode(t, "Mount", e, api.ErrDown)
			if c != nil {
				t.Fatal("there is a core")
			}
			wantCode(t, "Crash", d.Crash(keep), api.OK)
			if register(t, d) != before {
				t.Fatal("the register was set")
			}
			if calls%4 == 0 || calls > count-1 {
				wantAnew(t, d, b.l, b.writes)
			}
		}
	}
	d := shown(t, b.d)
	wantCode(t, "Fail", d.Fail(count+2), api.OK)
	_, e := core.Mount(d, hashlog.New())
	wantCode(t, "Mount", e, api.OK)
}
