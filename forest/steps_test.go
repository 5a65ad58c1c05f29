package forest_test

import (
	"maps"
	"math/rand/v2"
	"testing"

	"casemate/api"
	"casemate/forest"
)

// row is forests of one store, and their plain ones.
type row struct {
	l      []*both
	chance *rand.Rand
}

func (o *row) any() int { return o.chance.IntN(len(o.l)) }

func (o *row) step(t *testing.T) {
	t.Helper()
	i := o.any()
	b := o.l[i]
	number := o.chance.IntN(10)
	switch kind := o.chance.IntN(30); {
	case kind < 14:
		x := some(o.chance.IntN(3000))
		if number == 0 || number == 9 {
			wantCode(t, "Put", b.f.Put(number, x.root, x.tenant), api.ErrTenant)
			return
		}
		b.put(t, number, x)
	case kind < 22:
		b.del(t, number)
	case kind < 24 && len(o.l) < 5:
		o.l = append(o.l, b.clone(t))
	case kind < 25 && len(o.l) > 1:
		wantCode(t, "Free", b.f.Free(), api.OK)
		o.l[i] = o.l[len(o.l)-1]
		o.l = o.l[:len(o.l)-1]
	case kind < 27:
		from := o.l[o.any()]
		wantCode(t, "Become", b.f.Become(from.f), api.OK)
		b.p = maps.Clone(from.p)
	case kind < 28:
		f, e := forest.Open(b.s, b.f.Root())
		wantCode(t, "Open", e, api.OK)
		wantCode(t, "Free", b.f.Free(), api.OK)
		b.f = f
	}
}

// P26.1 to P26.4: many steps of some forests of one store, held against plain ones.
func TestSteps(t *testing.T) {
	for seed := range uint64(10) {
		b := fresh(t, 120)
		o := &row{[]*both{b}, rand.New(rand.NewPCG(seed, 26))}
		for range 300 {
			o.step(t)
			for _, x := range o.l {
				x.wantTold(t)
			}
			wantHeld(t, b.s, o.l...)
		}
		for _, x := range o.l {
			x.wantTree(t)
			wantCode(t, "Free", x.f.Free(), api.OK)
		}
		if b.s.Used() != 0 {
			t.Fatalf("the store keeps %d nodes", b.s.Used())
		}
	}
}
