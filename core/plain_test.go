package core_test

import (
	"maps"
	"slices"

	"casemate/api"
	"casemate/keys"
	"casemate/slot"
)

// volume is how many blocks a volume has, and which write each block was that was written.
type volume struct {
	blocks  int
	written map[int]int
}

// state is a tenant's volumes.
type state map[int]volume

func (s state) clone() state {
	c := state{}
	for n, v := range s {
		c[n] = volume{v.blocks, maps.Clone(v.written)}
	}
	return c
}

// has is the error of a call that asks for a block.
func (s state) has(n, block int) api.Errno {
	v, there := s[n]
	switch {
	case !there:
		return api.ErrVolume
	case block < 0 || block >= v.blocks:
		return api.ErrBlock
	}
	return api.OK
}

// user is what a tenant should be: its keys, in which place its slot is, its limits, and its volumes as they were committed and as they are now.
type user struct {
	outer, master  api.Key
	salt           [32]byte
	place          int
	reserve, quota int
	kept, working  state
}

func (u *user) clone() *user {
	c := *u
	c.kept, c.working = u.kept.clone(), u.working.clone()
	return &c
}

// charge is how many extents a tenant should have: each write has one, however many blocks it is.
func (u *user) charge() int {
	writes := map[int]bool{}
	for _, s := range []state{u.kept, u.working} {
		for _, v := range s {
			for _, write := range v.written {
				writes[write] = true
			}
		}
	}
	return len(writes)
}

// slot is what should stand at the place of its slot.
func (u *user) slot() []byte {
	return slot.Write(keys.Make(u.outer, u.master, u.salt))
}

// users is all tenants that there should be.
type users map[int]*user

func (l users) clone() users {
	c := users{}
	for id, u := range l {
		c[id] = u.clone()
	}
	return c
}

// mounted is what there should be behind a mount: all as it was committed last.
func (l users) mounted() users {
	c := l.clone()
	for _, u := range c {
		u.working = u.kept.clone()
	}
	return c
}

func (l users) list() []int {
	return slices.Sorted(maps.Keys(l))
}

// text is the block of a write, unlike for each number; of 0, which stands for no write, noughts.
func text(n int) []byte {
	b := make([]byte, api.Sector)
	if n == 0 {
		return b
	}
	for i := range b {
		b[i] = byte(n*7 + i*n/3)
	}
	b[0], b[511] = byte(n), byte(n>>8)
	return b
}
