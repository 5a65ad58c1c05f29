package shadow_test

import (
	"maps"
	"math/rand/v2"
	"testing"

	"casemate/api"
	"casemate/disk"
	"casemate/node"
	"casemate/shadow"
)

// thing is a node that a plain store keeps.
type thing struct {
	ref     api.Ref
	kids    []*thing
	callers int  // how often callers held it, less how often they dropped it
	was     bool // held once: if nobody holds it, it is gone, while one that never was is loose
}

// plain stands for a store: things, and what was written last at each sector.
type plain struct {
	from, count int
	things      map[uint32]*thing
	stands      map[uint32]node.Node
	sums        map[uint32]api.Sum
}

// holds is how often a thing is held, counted anew.
func (p *plain) holds(x *thing) int {
	times := x.callers
	for _, o := range p.things {
		for _, kid := range o.kids {
			if kid == x {
				times++
			}
		}
	}
	return times
}

// settle takes away what nobody holds any more, till all that is there is held, or was never.
func (p *plain) settle() {
	for again := true; again; {
		again = false
		for at, x := range p.things {
			times := p.holds(x)
			x.was = x.was || times > 0
			if x.was && times <= 0 {
				delete(p.things, at)
				again = true
			}
		}
	}
}

func (p *plain) free() (uint32, bool) {
	for i := range p.count {
		if p.things[uint32(p.from+i)] == nil {
			return uint32(p.from + i), true
		}
	}
	return 0, false
}

func (p *plain) mayMake(n node.Node) api.Errno {
	for _, kid := range n.Kids {
		if p.things[kid.Sector] == nil {
			return api.ErrState
		}
	}
	if len(p.things) == p.count {
		return api.ErrFull
	}
	return api.OK
}

// put keeps a thing of that reference and these kids.
func (p *plain) put(r api.Ref, kids []api.Ref) {
	x := &thing{ref: r}
	for _, kid := range kids {
		x.kids = append(x.kids, p.things[kid.Sector])
	}
	p.things[r.Sector] = x
}

func (p *plain) load(r api.Ref) (node.Node, api.Errno) {
	switch n, there := p.stands[r.Sector]; {
	case int(r.Sector) < p.from || int(r.Sector) >= p.from+p.count:
		return node.Node{}, api.ErrArg
	case !there || p.sums[r.Sector] != r.Sum:
		return node.Node{}, api.ErrIntegrity
	default:
		return n, api.OK
	}
}

// adopt is what Adopt tells, of few nodes in one another.
func (p *plain) adopt(r api.Ref) api.Errno {
	before := maps.Clone(p.things)
	if e := p.lay(r, before); e != api.OK {
		p.things = before
		return e
	}
	p.things[r.Sector].callers++
	return api.OK
}

// lay keeps a node behind its kids, unless it was kept before. All references to it are loaded, since one of them may have another sum.
func (p *plain) lay(r api.Ref, before map[uint32]*thing) api.Errno {
	if before[r.Sector] != nil {
		return api.OK
	}
	n, e := p.load(r)
	if e != api.OK || p.things[r.Sector] != nil {
		return e
	}
	for _, kid := range n.Kids {
		if e := p.lay(kid, before); e != api.OK {
			return e
		}
	}
	p.put(r, n.Kids)
	return api.OK
}

// sweep is how many are gone with those that are loose.
func (p *plain) sweep() int {
	before := len(p.things)
	for at, x := range p.things {
		if p.holds(x) <= 0 {
			delete(p.things, at)
		}
	}
	p.settle()
	return before - len(p.things)
}

// both are a store and a plain one, to which the same is done.
type both struct {
	s      *shadow.Store
	d      *disk.Disk
	p      *plain
	chance *rand.Rand
	refs   []api.Ref // all that were made
}

// any is some reference: mostly one that was made.
func (b *both) any() api.Ref {
	if len(b.refs) == 0 || b.chance.IntN(30) == 0 {
		return api.Ref{Sector: uint32(b.chance.IntN(20))}
	}
	last := min(len(b.refs), 12)
	return b.refs[len(b.refs)-1-b.chance.IntN(last)]
}

// node is some node; its kids need not be kept.
func (b *both) node(step int) node.Node {
	if b.chance.IntN(3) == 0 {
		return leaf(step)
	}
	kids := []api.Ref{b.any(), b.any()}
	for b.chance.IntN(2) == 0 && len(kids) < api.MaxKids {
		kids = append(kids, kids[b.chance.IntN(len(kids))])
	}
	return above(kids...)
}

func (b *both) make(t *testing.T, step int) {
	t.Helper()
	n := b.node(step)
	want := b.p.mayMake(n)
	at, _ := b.p.free()
	r, e := b.s.Make(n)
	wantCode(t, "Make", e, want)
	if e != api.OK {
		return
	}
	if r.Sector != at {
		t.Fatalf("made at %d, want %d", r.Sector, at)
	}
	b.p.put(r, n.Kids)
	b.p.stands[at], b.p.sums[at] = n, r.Sum
	b.refs = append(b.refs, r)
}

// overwrite writes noughts over a sector that is not kept, so that Adopt has something to tell.
func (b *both) overwrite(t *testing.T) {
	t.Helper()
	at := uint32(b.chance.IntN(b.d.Size()))
	if b.p.things[at] == nil {
		wantCode(t, "Tamper", b.d.Tamper(at, make([]byte, api.Sector)), api.OK)
		delete(b.p.stands, at)
	}
}

// anew is another store of the same sectors, which keeps nothing but what it adopts then.
func (b *both) anew(t *testing.T) {
	t.Helper()
	b.s = on(t, b.d, b.p.from, b.p.count, nil)
	clear(b.p.things)
	for range 4 {
		r := b.any()
		wantCode(t, "Adopt", b.s.Adopt(r), b.p.adopt(r))
		b.p.settle()
	}
}

func (b *both) step(t *testing.T, step int) {
	t.Helper()
	r := b.any()
	x := b.p.things[r.Sector]
	switch kind := b.chance.IntN(20); {
	case b.chance.IntN(30) == 0:
		b.anew(t)
	case kind < 8:
		b.make(t, step)
	case kind < 12 && x == nil:
		wantCode(t, "Hold", b.s.Hold(r), api.ErrState)
	case kind < 12:
		wantCode(t, "Hold", b.s.Hold(r), api.OK)
		x.callers++
	case kind < 16 && (x == nil || b.p.holds(x) == 0):
		wantCode(t, "Drop", b.s.Drop(r), api.ErrState)
	case kind < 16:
		wantCode(t, "Drop", b.s.Drop(r), api.OK)
		b.p.settle()
		x.callers--
	case kind < 17:
		wantSweep(t, b.s, b.p.sweep())
	case kind < 18:
		wantCode(t, "Adopt", b.s.Adopt(r), b.p.adopt(r))
	case kind < 19:
		b.overwrite(t)
	default:
		want, e := b.p.load(r)
		if n, got := b.s.Load(r); got != e || !node.Same(n, want) {
			t.Fatalf("Load: %v, %v, want %v, %v", n, got, want, e)
		}
	}
	b.p.settle()
}

// P14.1 to P14.5, P14.7: many steps, held against a plain store that counts anew each time.
func TestSteps(t *testing.T) {
	adopted := 0 // stores that have several nodes, none of which they made
	for seed := range uint64(60) {
		chance := rand.New(rand.NewPCG(seed, 7))
		count := 1 + chance.IntN(14)
		d := laid(t, count+4)
		b := &both{
			s: on(t, d, 2, count, nil), d: d, chance: chance,
			p: &plain{from: 2, count: count, things: map[uint32]*thing{}, stands: map[uint32]node.Node{}, sums: map[uint32]api.Sum{}},
		}
		for step := range 600 {
			before := b.s
			b.step(t, step)
			if b.s != before && b.s.Used() > 2 {
				adopted++
			}
			wantUsed(t, b.s, len(b.p.things))
			for at := range uint32(d.Size() + 1) {
				if b.s.Has(at) != (b.p.things[at] != nil) {
					t.Fatalf("Has(%d): %v", at, b.s.Has(at))
				}
			}
			for _, x := range b.p.things {
				wantLoad(t, b.s, x.ref, b.p.stands[x.ref.Sector])
			}
		}
	}
	if adopted < 100 {
		t.Errorf("only %d stores adopted several nodes", adopted)
	}
}

// P14.7: what is dropped as often as it was held is gone, with all that it alone held.
func TestDropAll(t *testing.T) {
	for seed := range uint64(20) {
		chance := rand.New(rand.NewPCG(seed, 8))
		_, s := fresh(t, 200)
		var refs, holds []api.Ref
		kids := map[api.Ref][]api.Ref{}
		for i := range 200 {
			n := leaf(i)
			if i > 20 && chance.IntN(3) > 0 {
				n = above(refs[chance.IntN(i)], refs[chance.IntN(i)], refs[i-1-chance.IntN(9)])
			}
			r := made(t, s, n)
			refs, kids[r] = append(refs, r), n.Kids
			for range max(chance.IntN(8)-4, 0) {
				hold(t, s, r)
				holds = append(holds, r)
			}
		}
		chance.Shuffle(len(holds), func(i, j int) { holds[i], holds[j] = holds[j], holds[i] })
		s.Sweep()
		for i := range holds {
			below := map[api.Ref]int{}
			for _, r := range holds[i:] {
				reach(r, kids, below)
			}
			wantUsed(t, s, len(below))
			for r := range below {
				if !s.Has(r.Sector) {
					t.Fatalf("the node at %d is held, and gone", r.Sector)
				}
			}
			drop(t, s, holds[i])
		}
		wantUsed(t, s, 0)
	}
}

// reach gathers what is below a node, and it.
func reach(r api.Ref, kids map[api.Ref][]api.Ref, into map[api.Ref]int) {
	if into[r] > 0 {
		return
	}
	into[r] = 1
	for _, kid := range kids[r] {
		reach(kid, kids, into)
	}
}
