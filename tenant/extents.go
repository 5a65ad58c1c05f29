package tenant

import (
	"casemate/api"
	"casemate/entry"
	"casemate/mtree"
)

// row is the keys of a volume: the first one, which is its description's, and the last one that a block may have.
func row(volume int) (first, last uint64, e api.Errno) {
	first, e = entry.VolumeKey(volume)
	last, _ = entry.BlockKey(volume, api.MaxBlocks-1)
	return first, last, e
}

// volumeOf is the number of the volume to which a key belongs, if it belongs to any.
func volumeOf(key uint64) int {
	return int(key >> 32)
}

// isBlock tells whether a key is a block's.
func isBlock(key uint64) bool {
	first, last, e := row(volumeOf(key))
	return e == api.OK && key > first && key <= last
}

// mayStand tells whether a pair may stand in a tenant's tree, whatever else does.
func mayStand(p mtree.Pair) bool {
	switch {
	case p.Key == countKey:
		_, e := entry.ReadCount(p.Val)
		return e == api.OK
	case isBlock(p.Key):
		return true // all values are blocks'
	}
	first, _, e := row(volumeOf(p.Key))
	_, form := entry.ReadVolume(p.Val)
	return e == api.OK && p.Key == first && form == api.OK
}

// right tells whether pairs, by rising keys, may be all that stands in a tenant's tree: then there are no blocks but those that a volume has.
func right(l []mtree.Pair) bool {
	var last uint64 // the last key that a block may have of the volume that came last
	for _, p := range l {
		switch {
		case !mayStand(p), isBlock(p.Key) && p.Key > last:
			return false
		case p.Key != countKey && !isBlock(p.Key):
			x, _ := entry.ReadVolume(p.Val)
			last, _ = entry.BlockKey(volumeOf(p.Key), x.Blocks-1)
		}
	}
	return true
}

// each hands on the extent of each block among some pairs; shall there be more?
func each(l []mtree.Pair, tell func(extent uint32) bool) {
blocks:
	for _, p := range l {
		switch {
		case !isBlock(p.Key): // a count or a description
			continue blocks
		case !tell(entry.ReadBlock(p.Val).Ref.Sector):
			break blocks
		}
	}
}

// claim claims the extents of the kept tree's blocks, for both trees. With an error none is held more often than it was.
func (t *Tenant) claim() api.Errno {
	l, e := all(t.kept)
	switch {
	case e != api.OK:
		return e
	case !right(l):
		return api.ErrIntegrity
	}
	var claimed []uint32
	each(l, func(extent uint32) bool {
		for range 2 {
			if e = t.pool.Field().Claim(t.id, extent); e != api.OK {
				return false
			}
			claimed = append(claimed, extent)
		}
		return true
	})
	if e != api.OK {
		for _, extent := range claimed {
			t.drop(extent)
		}
	}
	return e
}

// trade holds the extents of some blocks, and drops those of others. What both have is free at no time: what it holds the other tree holds, too.
func (t *Tenant) trade(hold, drop []mtree.Pair) {
	each(hold, t.hold)
	each(drop, t.drop)
}

// hold holds an extent once more; there may be more of them.
func (t *Tenant) hold(extent uint32) bool {
	t.pool.Field().Hold(extent)
	return true
}

// drop holds an extent once less; there may be more of them. Of an extent that two tenants have one alone is charged, and the other one may be charged for none, which then may not drop: so another one does.
func (t *Tenant) drop(extent uint32) bool {
	e := t.pool.Field().Drop(t.id, extent)
	for other := 1; e != api.OK && other <= api.MaxTenants; other++ {
		e = t.pool.Field().Drop(other, extent)
	}
	return true
}
