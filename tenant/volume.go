package tenant

import (
	"math"

	"casemate/api"
	"casemate/entry"
	"casemate/mtree"
	"casemate/walk"
)

// countKey is the key of the count of the volumes that a tenant ever had.
const countKey = 0

// Volume is a volume's description.
func (t *Tenant) Volume(volume int) (entry.Volume, api.Errno) {
	if !t.isMade() {
		return entry.Volume{}, api.ErrNil
	}
	key, e := entry.VolumeKey(volume)
	if e != api.OK {
		return entry.Volume{}, e
	}
	v, there, e := t.working.Get(key)
	switch {
	case e != api.OK:
		return entry.Volume{}, e
	case !there:
		return entry.Volume{}, api.ErrVolume
	}
	x, e := entry.ReadVolume(v)
	if e != api.OK {
		return entry.Volume{}, api.ErrIntegrity
	}
	return x, api.OK
}

// Volumes is the volumes' numbers.
func (t *Tenant) Volumes() ([]int, api.Errno) {
	if !t.isMade() {
		return nil, api.ErrNil
	}
	var l []int
	for volume := 1; volume <= api.MaxVolumes; volume++ {
		switch _, e := t.Volume(volume); e {
		case api.OK:
			l = append(l, volume)
		case api.ErrVolume:
		default:
			return nil, e
		}
	}
	return l, api.OK
}

// mayHave tells whether a volume may have so many blocks.
func mayHave(blocks int) bool {
	return blocks >= 1 && blocks <= api.MaxBlocks
}

// vacant is the error of a call that makes a volume of a number that may be.
func (t *Tenant) vacant(volume int) api.Errno {
	switch _, e := t.Volume(volume); e {
	case api.OK:
		return api.ErrThere
	case api.ErrVolume:
		return api.OK
	default:
		return e
	}
}

// Create makes a volume.
func (t *Tenant) Create(volume, blocks int) api.Errno {
	if !t.isMade() {
		return api.ErrNil
	}
	key, e := entry.VolumeKey(volume)
	switch {
	case e != api.OK:
		return e
	case !mayHave(blocks):
		return api.ErrArg
	}
	if e := t.vacant(volume); e != api.OK {
		return e
	}
	number, e := t.next()
	if e != api.OK {
		return e
	}
	count := mtree.Pair{Key: countKey, Val: entry.WriteCount(number)}
	return walk.PutAll(t.working, []mtree.Pair{count, described(key, entry.Volume{Number: number, Blocks: blocks})})
}

// described is a description's pair, of a size that may be.
func described(key uint64, x entry.Volume) mtree.Pair {
	v, _ := entry.WriteVolume(x)
	return mtree.Pair{Key: key, Val: v}
}

// next is the Number of the next volume. There is none behind the greatest one.
func (t *Tenant) next() (uint64, api.Errno) {
	v, _, e := t.working.Get(countKey)
	if e != api.OK {
		return 0, e
	}
	// Of a tree without a count that is the value of 0.
	count, e := entry.ReadCount(v)
	switch {
	case e != api.OK:
		return 0, api.ErrIntegrity
	case count == math.MaxUint64:
		return 0, api.ErrFull
	}
	return count + 1, api.OK
}

// Remove takes a volume away.
func (t *Tenant) Remove(volume int) api.Errno {
	if _, e := t.Volume(volume); e != api.OK {
		return e
	}
	first, last, _ := row(volume)
	return t.cut(first, last)
}

// Resize changes how many blocks a volume has.
func (t *Tenant) Resize(volume, blocks int) api.Errno {
	x, e := t.Volume(volume)
	switch {
	case e != api.OK:
		return e
	case !mayHave(blocks):
		return api.ErrArg
	}
	x.Blocks = blocks
	first, last, _ := row(volume)
	lastLeft, _ := entry.BlockKey(volume, blocks-1)
	return t.cut(lastLeft+1, last, described(first, x))
}

// cut takes all keys from from on to to away, and drops what they hold, and puts pairs that hold nothing. It is done to a clone, which the working tree becomes at last, so that an error leaves that as it was.
func (t *Tenant) cut(from, to uint64, put ...mtree.Pair) api.Errno {
	gone, e := t.working.Range(from, to, math.MaxInt)
	if e != api.OK {
		return e
	}
	c := t.working.Clone()
	defer c.Free()
	if _, e := walk.DelRange(c, from, to); e != api.OK {
		return e
	}
	if e := walk.PutAll(c, put); e != api.OK {
		return e
	}
	if e := t.working.Become(c); e != api.OK {
		return e
	}
	t.trade(nil, gone)
	return api.OK
}

// Snapshot makes a volume that has what another one has.
func (t *Tenant) Snapshot(from, to int) api.Errno {
	if !t.isMade() {
		return api.ErrNil
	}
	target, e := entry.VolumeKey(to)
	if e != api.OK {
		return e
	}
	if _, e := t.Volume(from); e != api.OK {
		return e
	}
	if e := t.vacant(to); e != api.OK {
		return e
	}
	first, last, _ := row(from)
	l, e := t.working.Range(first, last, math.MaxInt)
	if e != api.OK {
		return e
	}
	// The difference goes round, if the target stands ahead; so does Move.
	if _, e := walk.Move(t.working, first, last, target-first); e != api.OK {
		return e
	}
	t.trade(l, nil)
	return api.OK
}
