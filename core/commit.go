package core

import (
	"casemate/api"
	"casemate/entry"
	"casemate/forest"
	"casemate/super"
)

// commit commits the forest with a change, or leaves it as it is. The change is done to a clone, whose nodes stand beside all that the register leads to; once that leads to them, those of the old forest may be written over.
func (c *Core) commit(change func(next *forest.Forest) api.Errno) api.Errno {
	next := c.forest.Clone()
	unused := next
	defer func() { unused.Free() }()
	if e := change(next); e != api.OK {
		return e
	}
	if e := c.register(next.Root()); e != api.OK {
		return e
	}
	c.forest, unused = next, c.forest
	return api.OK
}

// revised puts other things of a tenant that a forest has.
func revised(f *forest.Forest, t int, revise func(r *entry.Root, x *entry.Tenant)) api.Errno {
	r, x, e := f.Get(t)
	if e != api.OK {
		return e
	}
	revise(&r, &x)
	return f.Put(t, r, x)
}

// register lets the register lead to a root. Its head is written where the one is not that the register names, and is sure with all else ahead of the register: so whatever crashes, that names a head whose root is there.
func (c *Core) register(root entry.Root) api.Errno {
	h, e := super.Next(c.head)
	if e != api.OK {
		return e
	}
	h.Epoch, h.Has, h.Root = c.Epoch(), root.Has, root.Ref
	b, e := super.Write(h)
	if e != api.OK {
		return e
	}
	which := otherHead - c.which
	if e := c.disk.Write(uint32(which), b); e != api.OK {
		return e
	}
	if e := c.disk.Flush(); e != api.OK {
		return e
	}
	if e := set(c.disk, super.Register{Sum: c.log.Sum(b), Gen: h.Gen, Epoch: h.Epoch, Which: which}); e != api.OK {
		return e
	}
	c.head, c.which = h, which
	return api.OK
}
