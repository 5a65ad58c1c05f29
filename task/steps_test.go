package task_test

import (
	"math/rand/v2"
	"testing"

	"casemate/api"
	"casemate/req"
	"casemate/task"
)

// work is a task of a tenant, and what does the same by hand, on a twin.
type work struct {
	id int
	k  *task.Task
	h  *hand
}

// random is a request of a tenant, of small numbers, so that it often has to do with what others have.
func random(b *bed, chance *rand.Rand) req.Request {
	n, block, size := chance.IntN(6), chance.IntN(12), 1+chance.IntN(8)
	switch chance.IntN(24) {
	case 0, 1, 2, 3, 4:
		return readOf(n, block, size).r
	case 5, 6, 7, 8, 9, 10, 11:
		return b.writeOf(n, block, size).r
	case 12, 13:
		return discardOf(n, block, size).r
	case 14, 15, 16:
		return createOf(n, chance.IntN(13))
	case 17:
		return removeOf(n)
	case 18:
		return resizeOf(n, chance.IntN(13))
	case 19:
		return snapshotOf(n, chance.IntN(6))
	case 20:
		return limitOf(chance.IntN(3), chance.IntN(9), chance.IntN(28))
	case 21:
		return plainOf(req.Abort)
	case 22:
		return rotateOf(1 + chance.IntN(3))
	}
	return plainOf(req.Commit)
}

// P3, P30.2, P30.3: many tasks of two tenants, some of which go on at a time, step by step in any order: each is answered as by the calls below that do the same, and the disks are alike.
func TestSteps(t *testing.T) {
	t.Parallel()
	told := map[api.Errno]int{}
	for seed := range uint64(6) {
		chance := rand.New(rand.NewPCG(seed, 30))
		a, b := peopledOn(t, 200), peopledOn(t, 200)
		var l []work
		for step := range 1500 {
			if len(l) == 0 || len(l) < 4 && chance.IntN(3) == 0 {
				r := random(a, chance)
				l = append(l, work{1 + chance.IntN(2), started(t, r), &hand{r: r}})
			}
			i := chance.IntN(len(l))
			w := l[i]
			w.h.step(b.c, b.l[w.id].v)
			if w.k.Step(a.c, a.l[w.id].v) != w.h.ended || w.k.Done() != w.h.ended {
				t.Fatalf("seed %d, step %d: a task of the kind %d has ended, or not", seed, step, w.h.r.Kind)
			}
			if w.h.ended {
				wantReply(t, "a task", w.k.Reply(), w.h.reply)
				told[w.h.reply.E]++
				l = append(l[:i], l[i+1:]...)
			}
		}
		wantTwin(t, a, b)
	}
	for _, e := range []api.Errno{api.OK, api.ErrArg, api.ErrKey, api.ErrTenant, api.ErrVolume, api.ErrThere, api.ErrQuota, api.ErrPool, api.ErrBlock} {
		if told[e] < 5 {
			t.Errorf("%v was told %d times", e, told[e])
		}
	}
}
