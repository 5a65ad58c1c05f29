package core

import (
	"math"

	"casemate/api"
	"casemate/disk"
	"casemate/entry"
	"casemate/forest"
	"casemate/hashlog"
	"casemate/keys"
	"casemate/pool"
	"casemate/shadow"
	"casemate/slot"
	"casemate/super"
	"casemate/tenant"
)

// How a disk is laid out: the heads, the slots, a store and a pool.
const (
	least      = 64 // sectors of a disk
	otherHead  = 1  // the first head stands at 0
	firstSlot  = 2
	firstNode  = 18
	poolsShare = 4 // one in so many of the sectors from firstNode on is the pool's
)

// fits is the error of a disk that may not be laid out.
func fits(d *disk.Disk) api.Errno {
	switch {
	case d.Size() == 0:
		return api.ErrNil
	case d.Size() < least:
		return api.ErrArg
	}
	return api.OK
}

// set sets the register.
func set(d *disk.Disk, r super.Register) api.Errno {
	b, e := super.WriteReg(r)
	if e != api.OK {
		return e
	}
	return d.SetReg(b)
}

// Format lays a disk out.
func Format(d *disk.Disk) api.Errno {
	if e := fits(d); e != api.OK {
		return e
	}
	h := super.Head{Gen: 1}
	b, e := super.Write(h)
	if e != api.OK {
		return e
	}
	if e := d.Write(0, b); e != api.OK {
		return e
	}
	for s := uint32(otherHead); s < firstNode; s++ {
		if e := d.Write(s, slot.Blank()); e != api.OK {
			return e
		}
	}
	if e := d.Flush(); e != api.OK {
		return e
	}
	return set(d, super.Register{Sum: hashlog.New().Sum(b), Gen: h.Gen})
}

// Mount is the core of a disk.
func Mount(d *disk.Disk, log *hashlog.Log) (*Core, api.Errno) {
	if e := fits(d); e != api.OK {
		return nil, e
	}
	r, h, e := named(d, log)
	if e != api.OK {
		return nil, e
	}
	if r.Epoch == math.MaxUint64 {
		return nil, api.ErrFull
	}
	r.Epoch++ // so that no stamp is one that was told ahead of this mount
	counter, e := keys.Count(r.Epoch)
	if e != api.OK {
		return nil, e
	}
	c := &Core{disk: d, log: log, head: h, which: r.Which, counter: counter}
	if e := c.open(); e != api.OK {
		return nil, e
	}
	if e := c.clean(); e != api.OK {
		return nil, e
	}
	if e := set(d, r); e != api.OK {
		return nil, e
	}
	return c, api.OK
}

// named is the register, and the head that it names.
func named(d *disk.Disk, log *hashlog.Log) (super.Register, super.Head, api.Errno) {
	reg, e := d.Reg()
	if e != api.OK {
		return super.Register{}, super.Head{}, e
	}
	r, e := super.ReadReg(reg)
	switch {
	case e == api.ErrNone:
		return super.Register{}, super.Head{}, api.ErrState
	case e != api.OK:
		return super.Register{}, super.Head{}, api.ErrIntegrity
	}
	b, e := d.Read(uint32(r.Which))
	if e != api.OK {
		return super.Register{}, super.Head{}, e
	}
	sum := log.Sum(b)
	h, e := super.Read(b)
	if sum != r.Sum || e != api.OK || h.Gen != r.Gen {
		return super.Register{}, super.Head{}, api.ErrIntegrity
	}
	return r, h, api.OK
}

// open opens all that the head leads to.
func (c *Core) open() api.Errno {
	left := c.disk.Size() - firstNode
	extents := min(left/poolsShare, api.MaxExtents)
	var e api.Errno
	if c.store, e = shadow.New(c.disk, firstNode, left-extents, c.log); e != api.OK {
		return e
	}
	if c.pool, e = pool.New(c.disk, c.disk.Size()-extents, extents, c.log); e != api.OK {
		return e
	}
	if c.forest, e = forest.Open(c.store, entry.Root{Has: c.head.Has, Ref: c.head.Root}); e != api.OK {
		return e
	}
	l, e := c.forest.Tenants()
	if e != api.OK {
		return e
	}
	for _, t := range l {
		if e := c.enter(t); e != api.OK {
			return e
		}
	}
	return api.OK
}

// enter admits and opens a tenant that the forest has.
func (c *Core) enter(t int) api.Errno {
	root, x, e := c.forest.Get(t)
	if e != api.OK {
		return e
	}
	if e := c.Field().Admit(t, x.Reserve, x.Quota); e != api.OK {
		return e
	}
	c.tenants[t], e = tenant.Open(t, c.store, c.pool, root)
	return e
}
