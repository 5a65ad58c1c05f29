package scrub_test

import (
	"bytes"
	"math/rand/v2"
	"slices"
	"testing"

	"casemate/api"
	"casemate/scrub"
)

// tour is a round, where it looked last, and what it should have seen.
type tour struct {
	r      *scrub.Round
	id, n  int
	seen   scrub.Report
	rounds int
}

// step fails if the next step of a tour is not as plain volumes tell it.
func (o *tour) step(t *testing.T, b *bed, bad map[uint32]bool) {
	t.Helper()
	for _, id := range b.ids() {
		u := b.l[id]
		for _, n := range u.working.numbers() {
			if id < o.id || id == o.id && n <= o.n {
				continue
			}
			o.id, o.n = id, n
			o.seen = together(o.seen, u.alone(n))
			for block := range u.working[n].written {
				if bad[b.sectorOf(t, u, n, block)] {
					o.seen.Bad++
				}
			}
			wantStep(t, o.r, false, api.OK)
			wantRound(t, o.r, o.seen)
			return
		}
	}
	wantStep(t, o.r, true, api.OK)
	wantRound(t, o.r, o.seen)
	if o.rounds++; o.rounds%2 == 0 {
		*o = tour{r: b.round(t), rounds: o.rounds}
	}
}

// change does something by chance.
func (b *bed) change(t *testing.T, chance *rand.Rand) {
	t.Helper()
	id := 1 + chance.IntN(4)*2
	u := b.l[id]
	if u == nil {
		b.add(t, id, 12)
		return
	}
	n, block := 1+chance.IntN(5), chance.IntN(6)
	v, there := u.working[n]
	switch kind := chance.IntN(40); {
	case kind == 0:
		b.shred(t, id)
	case kind < 4:
		b.commit(t, u)
	case kind < 6:
		b.abort(t, u)
	case !there:
		u.create(t, n, 1+chance.IntN(6))
	case kind < 9:
		u.remove(t, n)
	case kind < 12:
		u.resize(t, n, 1+chance.IntN(6))
	case kind < 16:
		if to := 1 + chance.IntN(5); !slices.Contains(u.working.numbers(), to) {
			u.snapshot(t, n, to)
		}
	case block < v.blocks && kind < 20:
		u.discard(t, n, block)
	case block < v.blocks && b.c.Field().Charge(id) < 12:
		b.put(t, u, n, block)
	}
}

// P32.1 to P32.5: rounds between whose steps all kinds of things are done, with blocks that are turned for some time, and crashes: each step is as plain volumes tell it, and where nobody turned a sector nothing is bad, and the books are right.
func TestSteps(t *testing.T) {
	t.Parallel()
	for seed := range uint64(6) {
		chance := rand.New(rand.NewPCG(seed, 32))
		b := fresh(t, 240)
		first := uint32(b.d.Size() - b.c.Field().Size())
		l := []*tour{{r: b.round(t)}, {r: b.round(t)}}
		for range 500 {
			switch chance.IntN(60) {
			case 0:
				wantCode(t, "Crash", b.d.Crash(bytes.Repeat([]byte{byte(chance.Uint32())}, 50)), api.OK)
				b.mount(t)
				l = []*tour{{r: b.round(t)}, {r: b.round(t)}}
			case 1, 2, 3:
				s := first + uint32(chance.IntN(30))
				turned(t, b.d, s, func() {
					for range 1 + chance.IntN(3) {
						l[chance.IntN(2)].step(t, b, map[uint32]bool{s: true})
					}
				})
			case 4, 5, 6, 7:
				b.wantAll(t)
			case 8, 9, 10, 11, 12, 13, 14:
				l[chance.IntN(2)].step(t, b, nil)
			default:
				b.change(t, chance)
			}
		}
		b.wantAll(t)
	}
}
