package core

import (
	"casemate/api"
	"casemate/disk"
	"casemate/forest"
	"casemate/keys"
	"casemate/octet"
	"casemate/slot"
)

// places is where both copies of a tenant's slot may stand.
func places(t int) []uint32 {
	zero, _ := slot.Place(t, 0)
	one, _ := slot.Place(t, 1)
	return []uint32{zero, one}
}

// blank writes noughts to those of some sectors that do not show them, and makes that sure.
func blank(d *disk.Disk, sectors []uint32) api.Errno {
	written := false
	for _, s := range sectors {
		b, e := d.Read(s)
		if e != api.OK {
			return e
		}
		if octet.Same(b, slot.Blank()) {
			continue
		}
		if e := d.Write(s, slot.Blank()); e != api.OK {
			return e
		}
		written = true
	}
	if !written {
		return api.OK
	}
	return d.Flush()
}

// clean blanks all slots but those that the forest names: what was cut off between a commit and its end may have left others.
func (c *Core) clean() api.Errno {
	var others []uint32
	for t := 1; t <= api.MaxTenants; t++ {
		used := -1
		if c.tenants[t] != nil {
			_, x, e := c.forest.Get(t)
			if e != api.OK {
				return e
			}
			used = x.Copy
		}
		for which, s := range places(t) {
			if which != used {
				others = append(others, s)
			}
		}
	}
	return blank(c.disk, others)
}

// lay writes a slot as a tenant's copy, and commits the forest with a change that has its sum. A slot that is not committed is blanked again.
func (c *Core) lay(t, which int, s slot.Slot, change func(next *forest.Forest, sum api.Sum) api.Errno) (e api.Errno) {
	place, b := places(t)[which], slot.Write(s)
	if e := c.disk.Write(place, b); e != api.OK {
		return e
	}
	defer func() {
		if e != api.OK {
			c.disk.Write(place, slot.Blank())
		}
	}()
	return c.commit(func(next *forest.Forest) api.Errno { return change(next, c.log.Sum(b)) })
}

// unlock is a tenant's master key, and which copy its slot is.
func (c *Core) unlock(t int, outer api.Key) (api.Key, int, api.Errno) {
	if _, e := c.Tenant(t); e != api.OK {
		return api.Key{}, 0, e
	}
	_, x, e := c.forest.Get(t)
	if e != api.OK {
		return api.Key{}, 0, e
	}
	b, e := c.disk.Read(places(t)[x.Copy])
	if e != api.OK {
		return api.Key{}, 0, e
	}
	sum := c.log.Sum(b)
	s, e := slot.Read(b)
	if sum != x.Slot || e != api.OK {
		return api.Key{}, 0, api.ErrIntegrity
	}
	master, e := keys.Open(outer, s)
	if e != api.OK {
		return api.Key{}, 0, e
	}
	return master, x.Copy, api.OK
}
