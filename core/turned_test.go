package core_test

import (
	"bytes"
	"testing"

	"casemate/api"
	"casemate/core"
	"casemate/disk"
	"casemate/hashlog"
	"casemate/thin"
)

// tally is how often something was told as it was, and how often ErrIntegrity.
type tally struct{ right, lost int }

// asWritten fails if a view reads a block in another way than it was written, but with ErrIntegrity.
func (n *tally) asWritten(t *testing.T, v *thin.View, s state) {
	t.Helper()
	for volume, x := range s {
		for block := range x.blocks {
			b, e := v.Read(volume, block)
			switch {
			case e == api.OK && bytes.Equal(b, text(x.written[block])):
				n.right++
			case e == api.ErrIntegrity && len(b) == 0:
				n.lost++
			default:
				t.Fatalf("Read(%d, %d): %d bytes, %v", volume, block, len(b), e)
			}
		}
	}
}

// look fails if a core tells anything of these tenants but what was written, or ErrIntegrity.
func (n *tally) look(t *testing.T, c *core.Core, l users) {
	t.Helper()
	for id, u := range l {
		v, e := c.Open(id, u.outer)
		if e == api.OK {
			n.asWritten(t, v, u.working)
		} else {
			n.lost++
			wantCode(t, "Open", e, api.ErrIntegrity)
		}
		if v, e := c.Open(id, keyOf(60000)); v != nil || e != api.ErrKey && e != api.ErrIntegrity {
			t.Fatalf("Open with another key: %v", e)
		}
	}
	if c.Clash() {
		t.Fatal("the log has a clash")
	}
}

// mounted fails likewise, of a disk that is mounted now, which may be ErrIntegrity.
func (n *tally) mounted(t *testing.T, d *disk.Disk, l users) {
	t.Helper()
	c, e := core.Mount(d, hashlog.New())
	if e != api.OK {
		n.lost++
		wantCode(t, "Mount", e, api.ErrIntegrity)
		if c != nil {
			t.Fatal("there is a core")
		}
		return
	}
	n.look(t, c, l.mounted())
}

// P27.8, P4: whichever sector is turned while a core is mounted, what is read is what was written last, or ErrIntegrity; one that is put back is read again.
func TestTurnedWhileMounted(t *testing.T) {
	b := peopled(t)
	var n tally
	for s := range uint32(b.d.Size()) {
		turned(t, b.d, s, func() { n.look(t, b.c, b.l) })
	}
	if n.right < 5000 || n.lost < 50 {
		t.Errorf("%d were right, %d lost", n.right, n.lost)
	}
	b.wantAll(t)
}

// P27.8, P4: whichever sector is turned ahead of a mount.
func TestTurnedAndMounted(t *testing.T) {
	b := peopled(t)
	b.commit(t, 1)
	b.commit(t, 8)
	d := shown(t, b.d)
	var n tally
	for s := range uint32(d.Size()) {
		turned(t, d, s, func() { n.mounted(t, shown(t, d), b.l) })
	}
	if n.right < 5000 || n.lost < 30 {
		t.Errorf("%d were right, %d lost", n.right, n.lost)
	}
	wantAnew(t, d, b.l, b.writes)
}

// P27.8: each digit of the head that the register names, and of a slot, counts.
func TestTurnedDigits(t *testing.T) {
	b := peopled(t)
	which := uint32(register(t, b.d).Which)
	for i := range 512 {
		for _, s := range []uint32{which, 5} {
			was, e := b.d.Read(s)
			wantCode(t, "Read", e, api.OK)
			was[i] ^= 1 << (i % 8)
			replaced(t, b.d, s, was, func() {
				if s == 5 {
					v, e := b.c.Open(2, b.l[2].outer)
					wantCode(t, "Open", e, api.ErrIntegrity)
					wantCode(t, "Rotate", b.c.Rotate(2, b.l[2].outer, keyOf(1), [32]byte{}), api.ErrIntegrity)
					if v != nil {
						t.Fatal("there is a view")
					}
				} else {
					wantNoCore(t, b.d, api.ErrIntegrity)
				}
			})
		}
	}
	// The other head is none's.
	turned(t, b.d, 1-which, func() { wantAnew(t, shown(t, b.d), b.l, b.writes) })
	b.wantAll(t)
}

// P27.8: old images of each sector, one by one, and of all at once, with a core that is mounted, and ahead of a mount; images of other sectors in their place.
func TestOldImages(t *testing.T) {
	t.Parallel()
	b := peopled(t)
	b.commit(t, 2)
	old := shown(t, b.d)
	for range 2 {
		for _, id := range []int{1, 2, 8} {
			b.write(t, id, 2, 0, api.OK)
			b.write(t, id, 3, 1, api.OK)
			b.commit(t, id)
			b.rotate(t, id)
		}
	}
	now := shown(t, b.d)
	size := uint32(b.d.Size())
	var n tally
	for s := range size {
		for _, from := range []uint32{s, s ^ 1, (s + 7) % size} {
			image, e := old.Read(from)
			wantCode(t, "Read", e, api.OK)
			if was, e := now.Read(s); e != api.OK || bytes.Equal(image, was) {
				continue
			}
			replaced(t, b.d, s, image, func() { n.look(t, b.c, b.l) })
			replaced(t, now, s, image, func() { n.mounted(t, shown(t, now), b.l) })
		}
	}
	if n.right < 5000 || n.lost < 100 {
		t.Errorf("%d were right, %d lost", n.right, n.lost)
	}
	b.wantAll(t)
	// All of the old disk: just the register is the new one.
	for s := range size {
		image, e := old.Read(s)
		wantCode(t, "Read", e, api.OK)
		wantCode(t, "Tamper", now.Tamper(s, image), api.OK)
	}
	wantNoCore(t, now, api.ErrIntegrity)
}

// P27.4, P27.8: whichever sector is turned, each call is done, or ErrIntegrity, and then nothing has changed, but of a Shred whose commit was done; turned back all is as it should.
func TestTurnedAndChanged(t *testing.T) {
	t.Parallel()
	done, refused := 0, 0
	for i, o := range ops() {
		for s := uint32(i % 3); s < 70; s += 3 {
			b := peopledOn(t, 130)
			before := b.account(t)
			was, e := b.d.Read(s)
			wantCode(t, "Read", e, api.OK)
			wantCode(t, "Tamper", b.d.Tamper(s, text(9)), api.OK)
			e = o.do(b.c, b.l)
			overwritten, f := b.d.Read(s)
			wantCode(t, "Read", f, api.OK)
			if bytes.Equal(overwritten, text(9)) {
				wantCode(t, "Tamper", b.d.Tamper(s, was), api.OK)
			}
			if e == api.OK {
				done++
				b.done(o)
				b.want(t)
				b.again(t, nil)
				b.want(t)
				continue
			}
			refused++
			wantCode(t, o.name, e, api.ErrIntegrity)
			if register(t, b.d).Gen != b.gen {
				if o.name != "Shred" {
					t.Fatalf("%s tells an error, and is committed", o.name)
				}
				b.done(o)
			} else {
				b.wantAccount(t, before)
			}
			b.again(t, nil)
			b.want(t)
			wantSlots(t, b.d, b.l)
		}
	}
	if done < 100 || refused < 9 {
		t.Errorf("%d were done, %d refused", done, refused)
	}
}
