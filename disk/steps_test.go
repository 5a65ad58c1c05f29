package disk_test

import (
	"math/rand/v2"
	"testing"

	"casemate/api"
	"casemate/disk"
)

// waiting is a write that waits: the sector, and the number of its block.
type waiting struct{ s, n int }

// plain stands for a disk: what is sure of each sector, by numbers of blocks, of which 0 is noughts.
type plain struct {
	sure    []int
	waits   []waiting
	reg     [64]byte
	calls   int
	planned bool
	left    int
	down    bool
}

// shows is what a sector shows: the last write of it that waits, if one does.
func (p *plain) shows(s int) int {
	n := p.sure[s]
	for _, w := range p.waits {
		if w.s == s {
			n = w.n
		}
	}
	return n
}

// change does what a call does, unless the disk is down, or goes down.
func (p *plain) change(does func()) api.Errno {
	p.down = p.down || p.planned && p.left == 0
	if p.down {
		return api.ErrDown
	}
	p.left--
	p.calls++
	does()
	return api.OK
}

// settle makes those sure that are kept.
func (p *plain) settle(kept func(i int) bool) {
	for i, w := range p.waits {
		if kept(i) {
			p.sure[w.s] = w.n
		}
	}
	p.waits = nil
}

// turn is what Tamper does.
func (p *plain) turn(s, n int) {
	var others []waiting
	for _, w := range p.waits {
		if w.s != s {
			others = append(others, w)
		}
	}
	p.sure[s], p.waits = n, others
}

// unlessDown is an error that a disk tells that is not down.
func (p *plain) unlessDown(e api.Errno) api.Errno {
	if p.down {
		return api.ErrDown
	}
	return e
}

// numbered is a block's bytes; those of 0 are noughts.
func numbered(n int) []byte {
	if n == 0 {
		return noughts()
	}
	return block(n)
}

// step does one call on both, and is what it told, and what it should.
func step(d *disk.Disk, p *plain, chance *rand.Rand) (got, want api.Errno) {
	size := len(p.sure)
	s, n := chance.IntN(size), chance.IntN(60000)
	if chance.IntN(5) == 0 {
		n = 0
	}
	switch kind := chance.IntN(40); {
	case kind < 20:
		return d.Write(uint32(s), numbered(n)), p.change(func() { p.waits = append(p.waits, waiting{s, n}) })
	case kind < 23:
		return d.Flush(), p.change(func() { p.settle(func(int) bool { return true }) })
	case kind < 26:
		return d.SetReg(register(byte(n))), p.change(func() { p.reg = register(byte(n)) })
	case kind < 29:
		keep := make([]byte, chance.IntN(4))
		for i := range keep {
			keep[i] = byte(chance.IntN(256))
		}
		p.settle(func(i int) bool { return i < 8*len(keep) && keep[i/8]&(1<<(i%8)) != 0 })
		p.planned, p.down = false, false
		return d.Crash(keep), api.OK
	case kind < 33:
		p.turn(s, n)
		return d.Tamper(uint32(s), numbered(n)), api.OK
	case kind < 35:
		p.planned, p.left = true, chance.IntN(12)
		return d.Fail(p.left), api.OK
	case kind < 36:
		return d.Fail(-1 - n), api.ErrArg
	case kind < 38:
		return d.Write(uint32(size+n), numbered(n)), p.unlessDown(api.ErrSector)
	}
	return d.Write(uint32(s), numbered(n)[s+1:]), p.unlessDown(api.ErrForm)
}

// wantAs fails if a disk tells anything else than the plain one has.
func wantAs(t *testing.T, d *disk.Disk, p *plain) {
	t.Helper()
	wantCounts(t, d, len(p.waits), p.calls)
	wantDown(t, d, p.down)
	for s := range p.sure {
		wantSure(t, d, uint32(s), numbered(p.sure[s]))
		if !p.down {
			wantRead(t, d, uint32(s), numbered(p.shows(s)))
		}
	}
	if !p.down {
		wantReg(t, d, p.reg)
	}
}

// P11.1 to P11.5: many steps, held against plain lists.
func TestSteps(t *testing.T) {
	downs := 0
	for seed := range uint64(60) {
		chance := rand.New(rand.NewPCG(seed, 11))
		size := 1 + chance.IntN(6)
		d, p := made(t, size), &plain{sure: make([]int, size)}
		for range 400 {
			got, want := step(d, p, chance)
			wantCode(t, "a step", got, want)
			wantAs(t, d, p)
			if p.down {
				downs++
			}
		}
	}
	if downs < 1000 || downs > 23000 {
		t.Errorf("of 24000 steps %d on a disk that is down", downs)
	}
}
