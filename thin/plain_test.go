package thin_test

import (
	"maps"

	"casemate/api"
)

// volume is a plain volume: what was written last of each block that was written, told by a number that is unlike for each write.
type volume struct {
	blocks  int
	written map[int]int
}

// state is volumes by their numbers.
type state map[int]volume

func (s state) clone() state {
	out := state{}
	for n, v := range s {
		out[n] = volume{v.blocks, maps.Clone(v.written)}
	}
	return out
}

// has is the error of a call that asks for a block.
func (s state) has(n, block int) api.Errno {
	v, there := s[n]
	switch {
	case !there:
		return api.ErrVolume
	case block < 0 || block >= v.blocks:
		return api.ErrBlock
	}
	return api.OK
}

// plain stands for a tenant's volumes, as they were kept and as they are.
type plain struct{ kept, working state }

// named is how often each write's block stands in both.
func (p *plain) named() map[int]int {
	times := map[int]int{}
	for _, s := range []state{p.kept, p.working} {
		for _, v := range s {
			for _, n := range v.written {
				times[n]++
			}
		}
	}
	return times
}
