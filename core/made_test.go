package core_test

import (
	"testing"

	"casemate/api"
	"casemate/disk"
	"casemate/entry"
	"casemate/forest"
	"casemate/hashlog"
	"casemate/pool"
	"casemate/shadow"
	"casemate/super"
	"casemate/tenant"
)

// hand is what a disk is made of by hand: its store, its pool and its forest.
type hand struct {
	d *disk.Disk
	s *shadow.Store
	p *pool.Pool
	f *forest.Forest
}

// byHand is the parts of a disk of 82 sectors, of which 48 are the store's, and 16 the pool's.
func byHand(t *testing.T) *hand {
	t.Helper()
	h := &hand{d: blankDisk(t, 82)}
	log := hashlog.New()
	var e api.Errno
	h.s, e = shadow.New(h.d, 18, 48, log)
	wantCode(t, "shadow.New", e, api.OK)
	h.p, e = pool.New(h.d, 66, 16, log)
	wantCode(t, "pool.New", e, api.OK)
	h.f, e = forest.New(h.s)
	wantCode(t, "forest.New", e, api.OK)
	return h
}

// tree is the root of a tenant's tree with a volume, and one block in that extent.
func (h *hand) tree(t *testing.T, id int, extent uint32) entry.Root {
	t.Helper()
	wantCode(t, "Admit", h.p.Field().Admit(id, 0, 16), api.OK)
	x, e := tenant.New(id, h.s, h.p)
	wantCode(t, "tenant.New", e, api.OK)
	wantCode(t, "Create", x.Create(1, 5), api.OK)
	wantCode(t, "Set", x.Set(1, 0, entry.Block{Ref: api.Ref{Sector: extent}}), api.OK)
	return x.Root()
}

func (h *hand) put(t *testing.T, id int, r entry.Root, x entry.Tenant) {
	t.Helper()
	wantCode(t, "Put", h.f.Put(id, r, x), api.OK)
}

// head lets the register name a head at a sector.
func (h *hand) head(t *testing.T, which uint8, x super.Head, epoch uint64) {
	t.Helper()
	b, e := super.Write(x)
	wantCode(t, "super.Write", e, api.OK)
	h.names(t, b, super.Register{Sum: hashlog.New().Sum(b), Gen: x.Gen, Epoch: epoch, Which: which})
}

// names lets a register be that, and its head's sector show these bytes.
func (h *hand) names(t *testing.T, b []byte, r super.Register) {
	t.Helper()
	wantCode(t, "Write", h.d.Write(uint32(r.Which), b), api.OK)
	wantCode(t, "Flush", h.d.Flush(), api.OK)
	reg, e := super.WriteReg(r)
	wantCode(t, "WriteReg", e, api.OK)
	wantCode(t, "SetReg", h.d.SetReg(reg), api.OK)
}

// rooted is a head of the forest.
func (h *hand) rooted(gen uint64) super.Head {
	r := h.f.Root()
	return super.Head{Gen: gen, Has: r.Has, Root: r.Ref}
}
