package task_test

import (
	"testing"

	"casemate/api"
	"casemate/entry"
	"casemate/reply"
	"casemate/req"
	"casemate/thin"
)

// cut does a course to its end, of which the block that comes behind some of them is refused.
func (o *course) cut(s state, done int, e api.Errno) reply.Reply {
	o.steps(s, done)
	if !o.ended {
		o.refused(e)
	}
	return o.reply
}

// marks is how many calls had changed the disk ahead of each step of a task, and behind the last one.
func marks(t *testing.T, b *bed, r req.Request, v *thin.View) []int {
	t.Helper()
	start := b.d.Calls()
	l := []int{0}
	for k := started(t, r); !k.Done(); {
		k.Step(b.c, v)
		l = append(l, b.d.Calls()-start)
	}
	return l
}

// done is how many steps need no more calls than there are.
func done(marks []int, calls int) int {
	n := 0
	for n+1 < len(marks) && marks[n+1] <= calls {
		n++
	}
	return n
}

// P30.2: a disk that goes down at each call of each block of a Write or a Discard: how many blocks were done ahead of it is told, and they stay.
func TestDownInTheMidst(t *testing.T) {
	for _, of := range []func(b *bed) *course{
		func(b *bed) *course { return b.writeOf(2, 2, 8) },
		func(b *bed) *course { return b.writeOf(8, 40, 8) },
		func(b *bed) *course { return discardOf(2, 1, 8) },
	} {
		twin := peopled(t)
		m := marks(t, twin, of(twin).r, twin.l[1].v)
		last := m[len(m)-1]
		told := map[int]bool{}
		for calls := range last + 1 {
			b := peopled(t)
			u, o := b.l[1], of(b)
			wantCode(t, "Fail", b.d.Fail(calls), api.OK)
			want := o.cut(u.working, done(m, calls), api.ErrDown)
			wantReply(t, "a task whose disk goes down", b.run(t, o.r, u.v), want)
			told[want.Number] = true
			up(t, b.d)
			b.want(t)
		}
		if last < 8 || len(told) < 5 {
			t.Errorf("%d calls, %d unlike numbers", last, len(told))
		}
	}
}

// P30.2: a disk that is down ahead of each block of a Read, a Write or a Discard, of blocks that were written or not; one that is up again behind that changes nothing of what was told.
func TestDownAhead(t *testing.T) {
	for ahead := range 9 {
		b := peopled(t)
		u := b.l[1]
		for _, o := range []*course{readOf(2, 1, 8), b.writeOf(2, 1, 8), discardOf(2, 1, 8), readOf(8, 40, 8)} {
			k := started(t, o.r)
			for range ahead {
				k.Step(b.c, u.v)
			}
			down(t, b.d)
			if !k.Step(b.c, u.v) {
				t.Fatal("a task goes on though the disk is down")
			}
			up(t, b.d)
			want := o.cut(u.working, ahead, api.ErrDown)
			wantEnded(t, k, min(ahead+1, 8), 8, want)
			b.wantIdle(t, k, u.v)
			b.want(t)
		}
	}
}

// P30.2: a quota that is used up at each of a Write's blocks.
func TestQuota(t *testing.T) {
	for left := range 10 {
		b := peopled(t)
		u := b.l[1]
		wantCode(t, "Limit", b.c.Limit(1, 5, u.charge()+left), api.OK)
		o := b.writeOf(8, 96, 8)
		wantReply(t, "Write", b.run(t, o.r, u.v), o.cut(u.working, left, api.ErrQuota))
		b.want(t)
		if left < 8 {
			o = b.writeOf(8, 96, 1) // what stands there is dropped behind that only
			wantReply(t, "Write", b.run(t, o.r, u.v), reply.Reply{E: api.ErrQuota})
			b.wantDone(t, u, discardOf(8, 96, 8))
			b.want(t)
		}
	}
}

// P30.2: room in the pool that others have used up, or have for sure, at each of a Write's blocks.
func TestPool(t *testing.T) {
	for left := range 10 {
		b := peopled(t)
		w := b.l[2]
		slack := b.c.Field().Slack()
		wantCode(t, "Limit", b.c.Limit(5, 3+slack-left, 3+slack), api.OK)
		o := b.writeOf(1, 1, 8)
		wantReply(t, "Write", b.run(t, o.r, w.v), o.cut(w.working, left, api.ErrPool))
		b.want(t)
	}
}

// fill takes up nodes of the store with so many blocks of a volume, or as many as there is room for, all of one extent: how many.
func (b *bed) fill(t *testing.T, u *user, n, blocks int) int {
	t.Helper()
	x, field := u.tenant(), b.c.Field()
	extent, e := field.Take(u.id)
	wantCode(t, "Take", e, api.OK)
	defer func() { wantCode(t, "Drop", field.Drop(u.id, extent), api.OK) }()
	for block := range blocks {
		wantCode(t, "Hold", field.Hold(extent), api.OK)
		if e := x.Set(n, block, entry.Block{Ref: api.Ref{Sector: extent}, Stamp: 1}); e != api.OK {
			wantCode(t, "Set", e, api.ErrFull)
			wantCode(t, "Drop", field.Drop(u.id, extent), api.OK)
			return block
		}
	}
	return blocks
}

// crowd is a core of few nodes, with the tenant 1 of a volume of which some are written, and not committed, and the tenants 3, whose volume can take up nearly all nodes, and 4, 6, 7 and 8, whose volumes can take up the last ones.
func crowd(t *testing.T, written int) *bed {
	t.Helper()
	b := fresh(t, 90)
	for _, id := range []int{1, 3, 4, 6, 7, 8} {
		u := b.add(t, id, 0, 18)
		u.create(t, 1, 256)
		b.commit(t, u)
	}
	for block := range written {
		b.put(t, b.l[1], 1, block)
	}
	return b
}

// last takes up the last nodes, with so many blocks of each of the volumes that can, or as many as there is room for.
func (b *bed) last(t *testing.T, blocks int) {
	t.Helper()
	for _, id := range []int{4, 6, 7, 8} {
		b.fill(t, b.l[id], 1, blocks)
	}
}

// P30.2: a store whose room is used up at each of a Write's blocks; and, with more of it, at none.
func TestFull(t *testing.T) {
	t.Parallel()
	told := map[int]int{}
	for written := range 9 {
		b := crowd(t, written)
		most := b.fill(t, b.l[3], 1, 256)
		for i := range 10 {
			b := crowd(t, written)
			b.fill(t, b.l[3], 1, most-i/2*4)
			b.last(t, i%2*256)
			u, o := b.l[1], b.writeOf(1, 10, 8)
			got := b.run(t, o.r, u.v)
			told[got.Number]++
			wantReply(t, "Write", got, o.cut(u.working, got.Number, api.ErrFull))
			b.wantState(t, u)
		}
	}
	for n := range 9 {
		if told[n] == 0 {
			t.Errorf("no Write was done of %d blocks: %v", n, told)
		}
	}
}

// P30.2: a Read of blocks one of which was turned, at each place; it ends there, with none of the data. Writes and Discards of that block do not ask for it.
func TestTurnedBlock(t *testing.T) {
	b := peopled(t)
	u := b.l[1]
	b.put(t, u, 8, 50, 51, 52, 53, 54, 55, 56, 57)
	for i := range 8 {
		turned(t, b.d, b.sectorOf(t, u, 8, 50+i), func() {
			for from := 46; from <= 58; from++ {
				o := readOf(8, from, 8)
				got := b.run(t, o.r, u.v)
				if place := 50 + i - from; place >= 0 && place < 8 {
					wantReply(t, "Read of a turned block", got, reply.Reply{E: api.ErrIntegrity, Number: place})
				} else {
					wantReply(t, "Read beside a turned block", got, o.end(u.working))
				}
			}
		})
	}
	b.want(t)
	turned(t, b.d, b.sectorOf(t, u, 8, 53), func() {
		b.wantDone(t, u, b.writeOf(8, 51, 5))
		b.wantDone(t, u, readOf(8, 50, 8))
	})
	turned(t, b.d, b.sectorOf(t, u, 8, 53), func() { b.wantDone(t, u, discardOf(8, 51, 5)) })
	b.want(t)
}

// P30.2, P4: whichever sector is turned, a Read tells what was written, or ends with ErrIntegrity and how many blocks were read; of a Write and a Discard just so many blocks were done as are told.
func TestTurned(t *testing.T) {
	t.Parallel()
	b := peopledOn(t, 150)
	u := b.l[1]
	told := map[api.Errno]int{}
	for s := range uint32(b.d.Size()) {
		for _, o := range []*course{readOf(2, 3, 8), b.writeOf(2, 15, 3), discardOf(8, 252, 4)} {
			turned(t, b.d, s, func() {
				got := b.run(t, o.r, u.v)
				told[got.E]++
				if got.E == api.OK {
					wantReply(t, "a task", got, o.end(u.working))
				} else {
					wantReply(t, "a task", got, o.cut(u.working, got.Number, api.ErrIntegrity))
				}
			})
			if o.r.Kind != req.Read {
				b.wantState(t, u)
				b.abort(t, u)
			}
		}
	}
	if told[api.OK] < 300 || told[api.ErrIntegrity] < 5 || len(told) > 2 {
		t.Errorf("told: %v", told)
	}
	b.want(t)
}
