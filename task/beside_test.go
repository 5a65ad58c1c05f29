package task_test

import (
	"testing"

	"casemate/api"
	"casemate/reply"
	"casemate/req"
	"casemate/task"
)

// orders is all orders of so many steps of one and so many of another.
func orders(one, other int) [][]int {
	if one == 0 && other == 0 {
		return [][]int{nil}
	}
	var l [][]int
	if one > 0 {
		for _, o := range orders(one-1, other) {
			l = append(l, append([]int{0}, o...))
		}
	}
	if other > 0 {
		for _, o := range orders(one, other-1) {
			l = append(l, append([]int{1}, o...))
		}
	}
	return l
}

// P30.2, P30.3: two tasks step by step, one beside the other, in all orders, of one tenant's blocks that both have to do with: each step does what it does alone.
func TestBeside(t *testing.T) {
	pairs := []func(b *bed) [2]*course{
		func(b *bed) [2]*course { return [2]*course{b.writeOf(2, 2, 3), readOf(2, 3, 3)} },
		func(b *bed) [2]*course { return [2]*course{b.writeOf(2, 2, 3), b.writeOf(2, 1, 3)} },
		func(b *bed) [2]*course { return [2]*course{b.writeOf(2, 2, 3), b.writeOf(2, 2, 3)} },
		func(b *bed) [2]*course { return [2]*course{discardOf(2, 3, 3), b.writeOf(2, 2, 3)} },
		func(b *bed) [2]*course { return [2]*course{discardOf(2, 3, 3), discardOf(2, 4, 3)} },
		func(b *bed) [2]*course { return [2]*course{readOf(2, 3, 3), readOf(4, 3, 3)} },
		func(b *bed) [2]*course { return [2]*course{b.writeOf(2, 18, 3), readOf(4, 19, 3)} },
		func(b *bed) [2]*course { return [2]*course{readOf(5, 0, 3), b.writeOf(1, 4, 3)} },
	}
	for _, pair := range pairs {
		for _, order := range orders(3, 3) {
			b := peopled(t)
			l := pair(b)
			b.beside(t, l, [2]*user{b.l[1], b.l[1]}, order)
		}
	}
}

// P30.2: the same of two tenants, with a view of its own each.
func TestBesideOthers(t *testing.T) {
	for _, order := range orders(3, 3) {
		b := peopled(t)
		b.beside(t, [2]*course{b.writeOf(1, 0, 3), b.writeOf(1, 0, 3)}, [2]*user{b.l[1], b.l[2]}, order)
		b.beside(t, [2]*course{discardOf(1, 0, 3), readOf(1, 0, 3)}, [2]*user{b.l[1], b.l[2]}, order)
	}
}

// beside does two courses in an order, and asks both tasks at each step.
func (b *bed) beside(t *testing.T, l [2]*course, users [2]*user, order []int) {
	t.Helper()
	k := [2]*task.Task{started(t, l[0].r), started(t, l[1].r)}
	for _, i := range order {
		steps := k[i].Steps()
		if !l[i].ended {
			l[i].step(users[i].working)
			steps++
		}
		if k[i].Step(b.c, users[i].v) != l[i].ended {
			t.Fatalf("the order %v: a task has ended, or not", order)
		}
		for j := range k {
			switch {
			case !l[j].ended:
				wantOpen(t, k[j], l[j].at, 3)
			case j == i:
				wantEnded(t, k[j], steps, 3, l[j].reply)
			default:
				wantEnded(t, k[j], k[j].Steps(), 3, l[j].reply)
			}
		}
	}
	b.want(t)
}

// between is a request that comes between two blocks, and what it does to the plain volumes of the tenant 1.
type between struct {
	r    req.Request
	does func(u *user)
}

// betweens is requests that all are done to what is peopled.
func betweens() []between {
	return []between{
		{removeOf(2), func(u *user) { delete(u.working, 2) }},
		{resizeOf(2, 5), func(u *user) {
			u.working[2] = volume{5, u.working[2].written}
			for block := range u.working[2].written {
				if block >= 5 {
					delete(u.working[2].written, block)
				}
			}
		}},
		{snapshotOf(2, 3), func(u *user) { u.working[3] = u.working.clone()[2] }},
		{createOf(3, 7), func(u *user) { u.working[3] = volume{7, map[int]int{}} }},
		{plainOf(req.Commit), func(u *user) { u.kept = u.working.clone() }},
		{plainOf(req.Abort), func(u *user) { u.working = u.kept.clone() }},
		{plainOf(req.Status), func(*user) {}},
		{rotateOf(1), func(*user) {}},
		{limitOf(1, 0, 59), func(*user) {}},
		{shredOf(2), func(*user) {}},
	}
}

// P30.2: between any two blocks of a task another request of the same tenant is done: the blocks behind it are done as it left them, those ahead stay done.
func TestBetween(t *testing.T) {
	t.Parallel()
	for _, x := range betweens() {
		for ahead := range 4 {
			for _, of := range []func(b *bed) *course{
				func(*bed) *course { return readOf(2, 3, 3) },
				func(b *bed) *course { return b.writeOf(2, 3, 3) },
				func(*bed) *course { return discardOf(2, 3, 3) },
			} {
				b := peopled(t)
				u, o := b.l[1], of(b)
				k := started(t, o.r)
				for step := range 4 {
					if step == ahead {
						if got := b.run(t, x.r, u.v); got.E != api.OK {
							t.Fatalf("the kind %d: %v", x.r.Kind, got.E)
						}
						x.does(u)
					}
					if !o.ended {
						o.step(u.working)
					}
					k.Step(b.c, u.v)
				}
				wantEnded(t, k, k.Steps(), 3, o.reply)
				if x.r.Kind == req.Shred {
					delete(b.l, 2)
				}
				b.want(t)
			}
		}
	}
}

// P30.2: a task whose tenant is shredded by another one between two of its blocks ends with ErrTenant alone.
func TestShreddedBetween(t *testing.T) {
	for ahead := range 3 {
		b := peopled(t)
		u := b.l[1]
		o := b.writeOf(2, 3, 3)
		k := started(t, o.r)
		for range ahead {
			k.Step(b.c, u.v)
		}
		wantReply(t, "Shred", b.run(t, shredOf(1), u.v), reply.Reply{})
		if !k.Step(b.c, u.v) {
			t.Fatal("a task goes on though its tenant is gone")
		}
		wantEnded(t, k, ahead+1, 3, reply.Reply{E: api.ErrTenant})
		b.wantIdle(t, k, u.v)
		delete(b.l, 1)
		b.want(t)
	}
}
