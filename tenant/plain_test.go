package tenant_test

import (
	"cmp"
	"maps"
	"math"
	"slices"

	"casemate/api"
	"casemate/entry"
	"casemate/walk"
)

// volume is a plain volume.
type volume struct {
	number  uint64
	blocks  int
	written map[int]entry.Block
}

func (v volume) clone() volume {
	v.written = maps.Clone(v.written)
	return v
}

// tree stands for a tenant's tree.
type tree struct {
	count   uint64
	counted bool // a count stands there
	volumes map[int]volume
}

func (x tree) clone() tree {
	volumes := map[int]volume{}
	for n, v := range x.volumes {
		volumes[n] = v.clone()
	}
	x.volumes = volumes
	return x
}

// pairs is all that stands in it, by keys that are counted by hand.
func (x tree) pairs() map[uint64][44]byte {
	l := map[uint64][44]byte{}
	if x.counted {
		l[0] = entry.WriteCount(x.count)
	}
	for n, v := range x.volumes {
		key := uint64(n) << 32
		l[key], _ = entry.WriteVolume(entry.Volume{Number: v.number, Blocks: v.blocks})
		for at, b := range v.written {
			l[key+1+uint64(at)] = entry.WriteBlock(b)
		}
	}
	return l
}

// plain stands for a tenant: all in plain maps.
type plain struct{ kept, working tree }

func newPlain() *plain {
	return &plain{tree{volumes: map[int]volume{}}, tree{volumes: map[int]volume{}}}
}

func (p *plain) clone() *plain {
	return &plain{p.kept.clone(), p.working.clone()}
}

func (p *plain) there(n int) bool {
	_, ok := p.working.volumes[n]
	return ok
}

func (p *plain) list() []int {
	return slices.Sorted(maps.Keys(p.working.volumes))
}

func (p *plain) create(n, blocks int) api.Errno {
	x := &p.working
	switch {
	case n < 1 || n > 8:
		return api.ErrVolume
	case blocks < 1 || blocks > 256:
		return api.ErrArg
	case p.there(n):
		return api.ErrThere
	case x.count == math.MaxUint64:
		return api.ErrFull
	}
	x.count++
	x.counted = true
	x.volumes[n] = volume{x.count, blocks, map[int]entry.Block{}}
	return api.OK
}

func (p *plain) remove(n int) api.Errno {
	if !p.there(n) {
		return api.ErrVolume
	}
	delete(p.working.volumes, n)
	return api.OK
}

func (p *plain) resize(n, blocks int) api.Errno {
	switch {
	case !p.there(n):
		return api.ErrVolume
	case blocks < 1 || blocks > 256:
		return api.ErrArg
	}
	v := p.working.volumes[n]
	v.blocks = blocks
	maps.DeleteFunc(v.written, func(at int, _ entry.Block) bool { return at >= blocks })
	p.working.volumes[n] = v
	return api.OK
}

func (p *plain) snapshot(from, to int) api.Errno {
	switch {
	case !p.there(from) || to < 1 || to > 8:
		return api.ErrVolume
	case p.there(to):
		return api.ErrThere
	}
	p.working.volumes[to] = p.working.volumes[from].clone()
	return api.OK
}

// has is the error of a call that asks for a block.
func (p *plain) has(n, block int) api.Errno {
	switch {
	case !p.there(n):
		return api.ErrVolume
	case block < 0 || block >= p.working.volumes[n].blocks:
		return api.ErrBlock
	}
	return api.OK
}

func (p *plain) block(n, block int) (entry.Block, bool, api.Errno) {
	if e := p.has(n, block); e != api.OK {
		return entry.Block{}, false, e
	}
	b, written := p.working.volumes[n].written[block]
	return b, written, api.OK
}

func (p *plain) set(n, block int, b entry.Block) api.Errno {
	if e := p.has(n, block); e != api.OK {
		return e
	}
	p.working.volumes[n].written[block] = b
	return api.OK
}

func (p *plain) clear(n, block int) (bool, api.Errno) {
	_, written, e := p.block(n, block)
	if written {
		delete(p.working.volumes[n].written, block)
	}
	return written, e
}

func (p *plain) settle() { p.kept = p.working.clone() }

func (p *plain) abort() { p.working = p.kept.clone() }

// changes is the differences of both trees.
func (p *plain) changes() []walk.Change {
	was, is := p.kept.pairs(), p.working.pairs()
	all := maps.Clone(was)
	maps.Copy(all, is)
	var l []walk.Change
	for key := range all {
		c := walk.Change{Key: key}
		c.Was, c.HasWas = was[key]
		c.Is, c.HasIs = is[key]
		if c.HasWas != c.HasIs || c.Was != c.Is {
			l = append(l, c)
		}
	}
	slices.SortFunc(l, func(a, b walk.Change) int { return cmp.Compare(a.Key, b.Key) })
	return l
}

// held is how often each extent is named.
func (p *plain) held() map[uint32]int {
	times := map[uint32]int{}
	for _, x := range []tree{p.kept, p.working} {
		for _, v := range x.volumes {
			for _, b := range v.written {
				times[b.Ref.Sector]++
			}
		}
	}
	return times
}
