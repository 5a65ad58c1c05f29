package tenant

import (
	"casemate/api"
	"casemate/entry"
)

// find is the key of a block that a volume has, where it is, and whether it was written.
func (t *Tenant) find(volume, block int) (uint64, entry.Block, bool, api.Errno) {
	x, e := t.Volume(volume)
	if e != api.OK {
		return 0, entry.Block{}, false, e
	}
	key, e := entry.BlockKey(volume, block)
	if e != api.OK {
		return 0, entry.Block{}, false, e
	}
	if block >= x.Blocks {
		return 0, entry.Block{}, false, api.ErrBlock
	}
	v, written, e := t.working.Get(key)
	if e != api.OK || !written {
		return key, entry.Block{}, false, e
	}
	return key, entry.ReadBlock(v), true, api.OK
}

// Block is where a block is.
func (t *Tenant) Block(volume, block int) (entry.Block, bool, api.Errno) {
	_, b, written, e := t.find(volume, block)
	return b, written, e
}

// Set sets where a block is.
func (t *Tenant) Set(volume, block int, b entry.Block) api.Errno {
	key, was, written, e := t.find(volume, block)
	if e != api.OK {
		return e
	}
	if e := t.working.Put(key, entry.WriteBlock(b)); e != api.OK {
		return e
	}
	if written {
		t.drop(was.Ref.Sector)
	}
	return api.OK
}

// Clear lets a block not be written any more.
func (t *Tenant) Clear(volume, block int) (bool, api.Errno) {
	key, was, written, e := t.find(volume, block)
	if e != api.OK || !written {
		return false, e
	}
	if _, e := t.working.Del(key); e != api.OK {
		return false, e
	}
	t.drop(was.Ref.Sector)
	return true, api.OK
}
