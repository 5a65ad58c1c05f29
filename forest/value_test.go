package forest_test

import (
	"testing"

	"casemate/api"
	"casemate/entry"
)

// P26.2: what may not stand in a live tree is told, and nothing is changed. Only who has the tree in hand can lay it there.
func TestValues(t *testing.T) {
	b := grown(t, 40, 2, 5)
	wantCode(t, "mtree.Put", b.f.Tree.Put(4, [44]byte{2}), api.OK)
	wantCode(t, "mtree.Put", b.f.Tree.Put(7, b.p.pairs(t)[1].Val), api.OK)
	root := b.f.Root()
	for _, number := range []int{2, 3} { // a value that is none, and one of both alone
		r, x, e := b.f.Get(number)
		if r != (entry.Root{}) || x != (entry.Tenant{}) || e != api.ErrIntegrity {
			t.Errorf("Get(%d): %v, %v, %v", number, r, x, e)
		}
		wantCode(t, "Del", b.f.Del(number), api.ErrIntegrity)
	}
	if l, e := b.f.Tenants(); len(l) != 0 || e != api.ErrIntegrity {
		t.Errorf("Tenants: %v, %v", l, e)
	}
	if r, x, e := b.f.Get(5); r != b.p[5].root || x != b.p[5].tenant || e != api.OK || b.f.Root() != root {
		t.Errorf("Get(5): %v, %v, %v", r, x, e)
	}
	b.put(t, 2, some(2))
	b.put(t, 3, some(3))
	b.want(t)
}
