package scrub_test

import (
	"testing"

	"casemate/api"
	"casemate/entry"
	"casemate/scrub"
)

// alone is what should be seen of one volume.
func (u *user) alone(n int) scrub.Report {
	return state{n: u.working[n]}.report()
}

// follow is a round, and what it should have seen.
type follow struct {
	r    *scrub.Round
	seen scrub.Report
}

func (b *bed) follow(t *testing.T) *follow {
	t.Helper()
	return &follow{r: b.round(t)}
}

// looks fails if the next step does not look at a volume of a tenant.
func (f *follow) looks(t *testing.T, u *user, n int) {
	t.Helper()
	f.seen = together(f.seen, u.alone(n))
	wantStep(t, f.r, false, api.OK)
	wantRound(t, f.r, f.seen)
}

// ends fails if the next step looks at anything.
func (f *follow) ends(t *testing.T) {
	t.Helper()
	for range 2 {
		wantStep(t, f.r, true, api.OK)
		wantRound(t, f.r, f.seen)
	}
}

// refused fails if the next step does not tell an error, or does anything.
func (f *follow) refused(t *testing.T, want api.Errno) {
	t.Helper()
	for range 2 {
		wantStep(t, f.r, false, want)
		wantRound(t, f.r, f.seen)
	}
}

// P32.3: rounds of no tenant, and of tenants without volumes, take no step.
func TestRoundOfNothing(t *testing.T) {
	b := fresh(t, 200)
	f := b.follow(t)
	f.ends(t)
	b.add(t, 3, 9)
	u := b.add(t, 7, 9)
	f.ends(t)
	g := b.follow(t)
	g.ends(t)
	// What comes behind that is looked at.
	u.create(t, 5, 2)
	b.put(t, u, 5, 1)
	f.looks(t, u, 5)
	g.looks(t, u, 5)
	f.ends(t)
	g.ends(t)
}

// P32.3, P32.5: a round looks at one volume at each step, by rising tenants and by rising volumes; each is told by how many blocks of it are written, so that no two may be changed for one another.
func TestRound(t *testing.T) {
	b := fresh(t, 600)
	written := 0
	for _, id := range []int{8, 3, 1, 5} {
		u := b.add(t, id, 100)
		if id == 5 {
			continue
		}
		for _, n := range []int{4, 1, 8} {
			u.create(t, n, 20)
			written++
			for block := range written {
				b.put(t, u, n, block)
			}
		}
	}
	f := b.follow(t)
	for _, id := range []int{1, 3, 8} {
		for _, n := range []int{1, 4, 8} {
			f.looks(t, b.l[id], n)
		}
	}
	f.ends(t)
	if f.seen != (scrub.Report{Volumes: 9, Blocks: 45}) {
		t.Errorf("it has seen %v", f.seen)
	}
	b.wantAll(t)
}

// P32.3: a round sees what is bad of each volume at the step that looks at it, as it is then.
func TestRoundOfTurned(t *testing.T) {
	b := peopled(t)
	u := b.l[1]
	f := b.follow(t)
	f.looks(t, u, 1)
	turned(t, b.d, b.sectorOf(t, u, 1, 0), func() { f.looks(t, u, 3) })
	turned(t, b.d, b.sectorOf(t, u, 4, 7), func() { // which the volume 3 has, too
		f.seen.Bad++
		f.looks(t, u, 4)
		f.looks(t, u, 8)
	})
	for s := uint32(b.d.Size() - b.c.Field().Size()); s < uint32(b.d.Size()); s++ {
		wantCode(t, "Tamper", b.d.Tamper(s, text(3)), api.OK)
	}
	f.seen.Bad += 3
	f.looks(t, b.l[2], 5)
	f.looks(t, b.l[6], 1)
	for n := 1; n <= 8; n++ {
		f.seen.Bad += len(b.l[8].working[n].written)
		f.looks(t, b.l[8], n)
	}
	f.ends(t)
}

// P32.3: volumes and tenants that come and go between two steps: those behind the volume at which it looked last count as they are then; those ahead of it, and that one itself, are not looked at again.
func TestRoundBetween(t *testing.T) {
	b := peopled(t)
	u := b.l[1]
	f := b.follow(t)
	f.looks(t, u, 1)
	u.remove(t, 1) // at which it looked last
	f.looks(t, u, 3)
	u.create(t, 1, 2) // ahead
	b.put(t, u, 1, 0)
	u.create(t, 2, 2)
	u.remove(t, 3) // at which it looked last, again
	u.create(t, 3, 1)
	b.put(t, u, 8, 20, 21) // behind
	u.remove(t, 4)
	u.create(t, 7, 3)
	b.put(t, u, 7, 0, 2)
	f.looks(t, u, 7)
	f.looks(t, u, 8)
	x := b.add(t, 3, 9) // a tenant behind
	x.create(t, 8, 8)
	b.put(t, x, 8, 1, 2, 4)
	b.shred(t, 2)
	b.l[4].create(t, 2, 2) // which had none
	b.put(t, b.l[4], 2, 1)
	f.looks(t, x, 8)
	b.shred(t, 3) // at which it looked last
	f.looks(t, b.l[4], 2)
	w := b.add(t, 2, 9) // a tenant ahead
	w.create(t, 2, 2)
	b.l[4].create(t, 1, 2)
	b.commit(t, u)
	b.abort(t, b.l[6]) // whose volume was not committed
	f.looks(t, b.l[8], 1)
	b.shred(t, 8)
	y := b.add(t, 8, 9) // of that number, but another one
	y.create(t, 1, 3)
	y.create(t, 2, 3)
	b.put(t, y, 2, 0, 1, 2)
	f.looks(t, y, 2)
	f.ends(t)
	y.create(t, 8, 8)
	b.put(t, y, 8, 7)
	f.looks(t, y, 8)
	f.ends(t)
	b.wantAll(t)
}

// P32.3: an error of a step changes nothing: a disk that is down at each step of a round; it goes on from there when that is up again.
func TestRoundDown(t *testing.T) {
	b := peopled(t)
	f := b.follow(t)
	for _, id := range []int{1, 2, 6, 8} {
		for _, n := range b.l[id].working.numbers() {
			down(t, b.d)
			f.refused(t, api.ErrDown)
			up(t, b.d)
			f.looks(t, b.l[id], n)
		}
	}
	down(t, b.d)
	f.refused(t, api.ErrDown)
	up(t, b.d)
	f.ends(t)
}

// P32.3: with tenants that have no tree a round asks for no disk.
func TestRoundDownOfNothing(t *testing.T) {
	b := fresh(t, 100)
	b.add(t, 3, 9)
	f := b.follow(t)
	down(t, b.d)
	f.ends(t)
}

// P32.3: a tenant whose tree was turned is told ErrIntegrity by the step that asks for it: not ahead of that, and not once the round is behind it. Turned back the round goes on.
func TestRoundOfTurnedNodes(t *testing.T) {
	b := peopled(t)
	root := func(id int) uint32 { return b.l[id].tenant().Root().Ref.Sector }
	f := b.follow(t)
	turned(t, b.d, root(1), func() { f.refused(t, api.ErrIntegrity) })
	turned(t, b.d, root(2), func() {
		for _, n := range []int{1, 3, 4, 8} {
			f.looks(t, b.l[1], n)
		}
		f.refused(t, api.ErrIntegrity)
	})
	// It has yet to ask whether there is another volume of the tenant 1.
	turned(t, b.d, root(1), func() { f.refused(t, api.ErrIntegrity) })
	f.looks(t, b.l[2], 5)
	turned(t, b.d, root(1), func() { f.looks(t, b.l[6], 1) })
	turned(t, b.d, root(8), func() { f.refused(t, api.ErrIntegrity) })
	turned(t, b.d, root(2), func() {
		for n := 1; n <= 8; n++ {
			f.looks(t, b.l[8], n)
		}
	})
	f.ends(t)
}

// P32.3: each node of a tenant's tree turned at each step, also one that is asked for behind other blocks alone: the step looks at its volume, or tells ErrIntegrity and changes nothing; turned back the round goes on with that volume.
func TestRoundOfEachNode(t *testing.T) {
	t.Parallel()
	b := peopled(t)
	u := b.l[1]
	lost, done := 0, 0
	for s := range b.nodes(t, u) {
		f := b.follow(t)
		for _, n := range u.working.numbers() {
			looked := false
			turned(t, b.d, s, func() {
				if _, e := f.r.Step(); e == api.OK {
					looked = true
					return
				}
				f.refused(t, api.ErrIntegrity)
			})
			if !looked {
				lost++
				f.looks(t, u, n)
				continue
			}
			done++
			f.seen = together(f.seen, u.alone(n))
			wantRound(t, f.r, f.seen)
		}
		f.looks(t, b.l[2], 5)
	}
	if lost < 15 || done < 5 {
		t.Errorf("%d were lost, %d done", lost, done)
	}
}

// P32.3: another error than ErrIntegrity, of a block behind others that were looked at, of which one is bad, changes nothing; once that block is another one the round goes on with its volume. So does an error of Volumes, of a tenant that was freed from without.
func TestRoundOfOtherErrors(t *testing.T) {
	b := peopled(t)
	u := b.l[1]
	f := b.follow(t)
	f.looks(t, u, 1)
	wantCode(t, "Set", u.tenant().Set(3, 12, entry.Block{Ref: api.Ref{Sector: 65535}}), api.OK)
	turned(t, b.d, b.sectorOf(t, u, 3, 3), func() { f.refused(t, api.ErrArg) })
	f.refused(t, api.ErrArg)
	wantCode(t, "Write", u.v.Write(3, 12, text(9)), api.OK)
	u.working[3].written[12] = true
	f.looks(t, u, 3)
	wantCode(t, "Free", u.tenant().Free(), api.OK)
	f.refused(t, api.ErrNil)
}

// P32.3: rounds beside each other do not touch each other, and what they tell is not theirs to be changed.
func TestRoundsBeside(t *testing.T) {
	b := peopled(t)
	f, g := b.follow(t), b.follow(t)
	f.looks(t, b.l[1], 1)
	f.looks(t, b.l[1], 3)
	g.looks(t, b.l[1], 1)
	f.looks(t, b.l[1], 4)
	told := f.r.Report()
	told.Volumes = 99
	wantRound(t, f.r, f.seen)
	g.looks(t, b.l[1], 3)
}
