package tenant

import (
	"testing"

	"casemate/api"
	"casemate/disk"
	"casemate/entry"
	"casemate/hashlog"
	"casemate/pool"
	"casemate/shadow"
)

// laid is a tenant with the volumes 1 and 2.
func laid(t *testing.T) *Tenant {
	t.Helper()
	d, _ := disk.New(100)
	s, _ := shadow.New(d, 0, 60, hashlog.New())
	p, _ := pool.New(d, 60, 40, nil)
	wantCode(t, p.Field().Admit(1, 0, 40), api.OK)
	x, e := New(1, s, p)
	wantCode(t, e, api.OK)
	wantCode(t, x.Create(1, 5), api.OK)
	wantCode(t, x.Create(2, 5), api.OK)
	return x
}

func wantCode(t *testing.T, e, want api.Errno) {
	t.Helper()
	if e != want {
		t.Fatalf("%v, want %v", e, want)
	}
}

// P24.4: values that are none are told, and nothing is changed. Since the sums of all nodes are asked, nobody can lay such a value from without: so the test lays it into the tree.
func TestValues(t *testing.T) {
	x := laid(t)
	key, _ := entry.VolumeKey(1)
	wantCode(t, x.working.Put(key, [44]byte{43: 1}), api.OK)
	root := x.Root()
	_, e := x.Volume(1)
	l, f := x.Volumes()
	at, written, g := x.Block(1, 0)
	was, h := x.Clear(1, 0)
	c, i := x.Changes()
	for _, e := range []api.Errno{e, f, g, h, i, x.Create(1, 5), x.Remove(1), x.Resize(1, 5), x.Snapshot(1, 3), x.Snapshot(2, 1), x.Set(1, 0, entry.Block{}), x.Abort()} {
		wantCode(t, e, api.ErrIntegrity)
	}
	if len(l) > 0 || at != (entry.Block{}) || written || was || len(c) > 0 || x.Root() != root {
		t.Error("a volume that is none is told, or changed")
	}
	if v, e := x.Volume(2); v != (entry.Volume{Number: 2, Blocks: 5}) || e != api.OK {
		t.Errorf("Volume(2): %v, %v", v, e)
	}
}

// P24.4: a count that is none, and something that stands where nothing may.
func TestOtherValues(t *testing.T) {
	x := laid(t)
	wantCode(t, x.working.Put(0, [44]byte{8: 1}), api.OK)
	wantCode(t, x.Create(3, 5), api.ErrIntegrity)
	_, e := x.Changes()
	wantCode(t, e, api.ErrIntegrity)
	wantCode(t, x.Resize(1, 6), api.OK)
	x = laid(t)
	wantCode(t, x.working.Put(7, [44]byte{}), api.OK)
	_, e = x.Changes()
	wantCode(t, e, api.ErrIntegrity)
	wantCode(t, x.Create(3, 5), api.OK)
}
