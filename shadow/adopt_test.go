package shadow_test

import (
	"bytes"
	"maps"
	"math"
	"math/rand/v2"
	"slices"
	"testing"

	"casemate/api"
	"casemate/disk"
	"casemate/hashlog"
	"casemate/node"
	"casemate/shadow"
)

// again is another store of the same sectors as fresh has.
func again(t *testing.T, d *disk.Disk) *shadow.Store {
	t.Helper()
	return on(t, d, 2, d.Size()-4, hashlog.New())
}

// P14.4: a root, and all that it has, each once, and held by nodes as often as these have it.
func TestAdopt(t *testing.T) {
	d, s := fresh(t, 12)
	one, two, three := made(t, s, leaf(1)), made(t, s, leaf(2)), made(t, s, leaf(3))
	left, right := made(t, s, above(one, two, one)), made(t, s, above(two, three))
	top := made(t, s, above(left, right, two))
	spare := made(t, s, leaf(4))

	o := again(t, d)
	wantCode(t, "Adopt", o.Adopt(top), api.OK)
	wantKept(t, o, one.Sector, two.Sector, three.Sector, left.Sector, right.Sector, top.Sector)
	wantSweep(t, o, 0)
	wantLoad(t, o, top, above(left, right, two))
	for _, c := range []struct {
		r     api.Ref
		times int
	}{{one, 2}, {two, 3}, {three, 1}, {left, 1}, {right, 1}, {top, 1}} {
		o := again(t, d)
		wantCode(t, "Adopt", o.Adopt(top), api.OK)
		for i := range c.times {
			if !o.Has(c.r.Sector) {
				t.Fatalf("the node at %d is held %d times only", c.r.Sector, i)
			}
			drop(t, o, c.r)
		}
		if o.Has(c.r.Sector) {
			t.Fatalf("the node at %d is held more than %d times", c.r.Sector, c.times)
		}
	}
	if r := made(t, o, leaf(5)); r.Sector != spare.Sector {
		t.Fatalf("made at %d, want %d", r.Sector, spare.Sector)
	}
	wantSweep(t, o, 1)
	drop(t, o, top)
	wantUsed(t, o, 0)
	wantKept(t, s, one.Sector, two.Sector, three.Sector, left.Sector, right.Sector, top.Sector, spare.Sector)
}

// P14.4: each Adopt holds the root once more; parts that are kept are not kept twice, but held by the nodes that come.
func TestAdoptOfKept(t *testing.T) {
	d, s := fresh(t, 12)
	one, two := made(t, s, leaf(1)), made(t, s, leaf(2))
	left, right := made(t, s, above(one, two)), made(t, s, above(two, two))
	top := made(t, s, above(left, right))

	o := again(t, d)
	wantCode(t, "Adopt", o.Adopt(right), api.OK)
	wantCode(t, "Adopt", o.Adopt(right), api.OK)
	wantKept(t, o, two.Sector, right.Sector)
	wantCode(t, "Adopt", o.Adopt(top), api.OK)
	wantCode(t, "Adopt", o.Adopt(one), api.OK)
	wantUsed(t, o, 5)
	drop(t, o, top)
	wantKept(t, o, one.Sector, two.Sector, right.Sector)
	drop(t, o, right)
	wantUsed(t, o, 3)
	drop(t, o, right)
	wantKept(t, o, one.Sector)
	drop(t, o, one)
	wantUsed(t, o, 0)

	loose := made(t, s, leaf(9))
	wantCode(t, "Adopt of what is loose", s.Adopt(loose), api.OK)
	wantSweep(t, s, 5)
	wantKept(t, s, loose.Sector)
	drop(t, s, loose)
	wantUsed(t, s, 0)
}

// P14.4: what is kept is not loaded: neither its sum nor its sector is asked, nor a disk that is down.
func TestAdoptLoadsNoKept(t *testing.T) {
	d, s := fresh(t, 6)
	one, two := made(t, s, leaf(1)), held(t, s, leaf(2))
	low := made(t, s, above(one, one))
	top := made(t, s, above(low, two))
	o := again(t, d)
	wantCode(t, "Adopt", o.Adopt(low), api.OK)
	wantCode(t, "Tamper", d.Tamper(one.Sector, make([]byte, api.Sector)), api.OK)
	wantCode(t, "Tamper", d.Tamper(low.Sector, make([]byte, api.Sector)), api.OK)
	wantCode(t, "Adopt of what is turned, and not kept", again(t, d).Adopt(top), api.ErrIntegrity)
	wantCode(t, "Adopt", o.Adopt(top), api.OK)
	wantUsed(t, o, 4)
	wantCode(t, "Fail", d.Fail(0), api.OK)
	wantCode(t, "Flush", d.Flush(), api.ErrDown)
	wantCode(t, "Adopt", o.Adopt(turned(two)), api.OK)
	wantCode(t, "Adopt of what is not kept", again(t, d).Adopt(two), api.ErrDown)
	drop(t, o, two)
	drop(t, o, low)
	drop(t, o, top)
	wantUsed(t, o, 0)
}

// P14.4: an error of Load, of the root or of any node in it: nothing has changed but the log.
func TestAdoptWrong(t *testing.T) {
	d, s := fresh(t, 12)
	one, two, three := made(t, s, leaf(1)), made(t, s, leaf(2)), made(t, s, leaf(3))
	left, right := made(t, s, above(one, two)), made(t, s, above(two, three))
	top := made(t, s, above(left, right))
	mine := hashlog.New()
	o := on(t, d, 2, 12, mine)
	wantCode(t, "Adopt", o.Adopt(three), api.OK)
	as := func(r api.Ref, e api.Errno) {
		t.Helper()
		wantCode(t, "Adopt", o.Adopt(r), e)
		wantKept(t, o, three.Sector)
		wantSweep(t, o, 0)
		drop(t, o, three)
		wantUsed(t, o, 0)
		wantCode(t, "Adopt", o.Adopt(three), api.OK)
	}
	for _, at := range []uint32{0, 1, 14, 15, 16, 65538, math.MaxUint32} {
		as(elsewhere(top, at), api.ErrArg)
	}
	as(turned(top), api.ErrIntegrity)
	as(elsewhere(top, left.Sector), api.ErrIntegrity)
	as(api.Ref{Sector: 13}, api.ErrIntegrity)
	for _, r := range []api.Ref{one, two, left, right, top} {
		b, _ := d.Read(r.Sector)
		for i := range b {
			x := bytes.Clone(b)
			x[i] ^= 1 << (i % 8)
			wantCode(t, "Tamper", d.Tamper(r.Sector, x), api.OK)
			if i%32 == 0 {
				as(top, api.ErrIntegrity)
				if !mine.Has(x) {
					t.Fatal("what was loaded is not in the log")
				}
			}
			wantCode(t, "Adopt", o.Adopt(top), api.ErrIntegrity)
		}
		wantCode(t, "Tamper", d.Tamper(r.Sector, b), api.OK)
	}
	wantCode(t, "Fail", d.Fail(0), api.OK)
	wantCode(t, "Flush", d.Flush(), api.ErrDown)
	wantCode(t, "Adopt", o.Adopt(top), api.ErrDown)
	wantCode(t, "Adopt", o.Adopt(elsewhere(top, 14)), api.ErrArg)
	wantKept(t, o, three.Sector)
}

// P14.4: kids in sectors that are not the store's, and kids with other sums, at each place.
func TestAdoptOtherKids(t *testing.T) {
	d, s := fresh(t, 12)
	one, two := made(t, s, leaf(1)), made(t, s, leaf(2))
	for _, kids := range [][]api.Ref{{turned(one), two}, {two, turned(one)}, {one, turned(one)}, {turned(one), one}, {one, two, one, turned(two)}} {
		top := made(t, s, above(kids...))
		o := again(t, d)
		wantCode(t, "Adopt of other sums", o.Adopt(top), api.ErrIntegrity)
		wantUsed(t, o, 0)
	}
	top := made(t, s, above(one, two))
	for _, c := range [][2]int{{3, 11}, {4, 10}} { // without the first leaf's sector, and without both
		o := on(t, d, c[0], c[1], nil)
		wantCode(t, "Adopt of kids that are elsewhere", o.Adopt(top), api.ErrArg)
		wantUsed(t, o, 0)
	}
	o := on(t, d, 3, 11, nil) // the first error on the way, the kids of a kid ahead of the next kid
	deep := made(t, s, above(top, turned(two)))
	wantCode(t, "Adopt", o.Adopt(deep), api.ErrArg)
	deep = made(t, s, above(turned(two), top))
	wantCode(t, "Adopt", o.Adopt(deep), api.ErrIntegrity)
}

// P14.4: 40 nodes in one another, and 41.
func TestAdoptDeep(t *testing.T) {
	d, s := fresh(t, 100)
	refs := chain(t, s, 60)
	o := again(t, d)
	for count := 1; count <= 60; count++ {
		want := api.OK
		if count > 40 {
			want = api.ErrFull
		}
		wantCode(t, "Adopt", o.Adopt(refs[count-1]), want)
		if want != api.OK {
			wantUsed(t, o, 0)
			continue
		}
		wantUsed(t, o, count)
		drop(t, o, refs[count-1])
		wantUsed(t, o, 0)
	}
	wide := made(t, s, above(refs[39], refs[0])) // the first kid has 40, the last one 1
	wantCode(t, "Adopt", o.Adopt(wide), api.ErrFull)
	wide = made(t, s, above(refs[0], refs[20], refs[39]))
	wantCode(t, "Adopt", o.Adopt(wide), api.ErrFull)
	wide = made(t, s, above(refs[0], refs[38], refs[20], refs[38]))
	wantCode(t, "Adopt", o.Adopt(wide), api.OK)
	wantUsed(t, o, 40)
}

// P14.4: however many nodes are beside one another, and however many are in one another.
func TestAdoptMany(t *testing.T) {
	d, s := fresh(t, 1500)
	var row []api.Ref
	for i := range 11 * 11 * 11 {
		row = append(row, made(t, s, leaf(i)))
	}
	for len(row) > 1 {
		var next []api.Ref
		for i := 0; i < len(row); i += 11 {
			next = append(next, made(t, s, above(row[i:i+11]...)))
		}
		row = next
	}
	all := 11*11*11 + 11*11 + 11 + 1
	wantUsed(t, s, all)
	o := again(t, d)
	wantCode(t, "Adopt", o.Adopt(row[0]), api.OK)
	wantUsed(t, o, all)
	drop(t, o, row[0])
	wantUsed(t, o, 0)

	d, s = fresh(t, 5000)
	refs := chain(t, s, 5000)
	o = again(t, d)
	wantCode(t, "Adopt", o.Adopt(refs[4999]), api.ErrFull)
	wantUsed(t, o, 0)
}

// P14.4: nodes to which short ways lead, and long ones: the longest counts, in whichever order they come.
func TestAdoptShortAndLong(t *testing.T) {
	for _, turn := range []bool{false, true} {
		for _, count := range []int{35, 39, 40, 41, 42, 50} {
			d, s := fresh(t, 120)
			refs := []api.Ref{made(t, s, leaf(1)), made(t, s, leaf(2))}
			for len(refs) <= count { // each has the two that came ahead
				kids := []api.Ref{refs[len(refs)-2], refs[len(refs)-1]}
				if turn {
					slices.Reverse(kids)
				}
				refs = append(refs, made(t, s, above(kids...)))
			}
			o := again(t, d)
			want := api.OK
			if count > 40 {
				want = api.ErrFull
			}
			wantCode(t, "Adopt", o.Adopt(refs[count]), want)
		}
	}
}

// P14.4: an error of Load, ahead of too many nodes in one another.
func TestAdoptDeepAndWrong(t *testing.T) {
	d, s := fresh(t, 100)
	refs := chain(t, s, 60)
	bad := made(t, s, above(refs[59], turned(refs[0])))
	o := again(t, d)
	wantCode(t, "Adopt", o.Adopt(bad), api.ErrIntegrity)
	for _, i := range []int{0, 10, 19, 20, 58} {
		d, s := fresh(t, 100)
		refs := chain(t, s, 60)
		wantCode(t, "Tamper", d.Tamper(refs[i].Sector, make([]byte, api.Sector)), api.OK)
		o := again(t, d)
		wantCode(t, "Adopt", o.Adopt(refs[59]), api.ErrIntegrity)
		wantUsed(t, o, 0)
	}
}

// P14.4: of nodes in one another those count that are loaded; those that the store keeps are as they are.
func TestAdoptDeepOfKept(t *testing.T) {
	d, s := fresh(t, 100)
	refs := chain(t, s, 60)
	wantCode(t, "Adopt of a root that is kept", s.Adopt(refs[59]), api.OK)
	o := again(t, d)
	wantCode(t, "Adopt", o.Adopt(refs[19]), api.OK)
	wantCode(t, "Adopt", o.Adopt(refs[59]), api.OK)
	drop(t, o, refs[19])
	wantUsed(t, o, 60)
	drop(t, o, refs[59])
	wantUsed(t, o, 0)
}

// P14.6: whoever turns any sectors, Load tells the node that was made there with that sum, or an error.
func TestTold(t *testing.T) {
	for seed := range uint64(30) {
		chance := rand.New(rand.NewPCG(seed, 14))
		log := hashlog.New()
		d := laid(t, 14)
		s := on(t, d, 2, 10, log)
		nodes := map[api.Ref]node.Node{}
		var refs []api.Ref
		remember := func(n node.Node) {
			r := held(t, s, n)
			nodes[r] = n
			refs = append(refs, r)
		}
		for i := range 6 {
			remember(leaf(i))
		}
		for i := range 4 {
			remember(above(refs[i], refs[chance.IntN(len(refs))]))
		}
		for range 200 {
			turn(t, d, chance)
			for _, r := range refs {
				told(t, s, r, nodes[r])
			}
		}
		wantUsed(t, s, 10)
		if s.Clash() {
			t.Error("a clash")
		}
	}
}

// told fails if Load tells anything else than the node that was made there, or an error.
func told(t *testing.T, s *shadow.Store, r api.Ref, want node.Node) {
	t.Helper()
	n, e := s.Load(r)
	if e == api.OK && !node.Same(n, want) {
		t.Fatalf("Load of %v: %v, want %v", r, n, want)
	}
	if e != api.OK && e != api.ErrIntegrity {
		t.Fatalf("Load of %v: %v", r, e)
	}
}

// turn turns a sector: a digit of it, another sector's bytes, or a node's that nobody made there.
func turn(t *testing.T, d *disk.Disk, chance *rand.Rand) {
	t.Helper()
	at := uint32(chance.IntN(d.Size()))
	b, e := d.Read(uint32(chance.IntN(d.Size())))
	wantCode(t, "Read", e, api.OK)
	switch chance.IntN(4) {
	case 0:
		b, _ = d.Read(at)
		b[chance.IntN(len(b))] ^= 1 << chance.IntN(8)
	case 1:
		b = bytesOf(t, leaf(chance.IntN(20)))
	case 2:
		clear(b[chance.IntN(len(b)):])
	}
	wantCode(t, "Tamper", d.Tamper(at, b), api.OK)
}

// P14.5: what is held is loaded as it was made, behind whatever was made and freed, also behind a crash of a disk that was flushed.
func TestAsItWas(t *testing.T) {
	chance := rand.New(rand.NewPCG(14, 5))
	d, s := fresh(t, 30)
	mine := map[api.Ref]node.Node{}
	for step := range 3000 {
		refs := slices.SortedFunc(maps.Keys(mine), func(a, b api.Ref) int { return int(a.Sector) - int(b.Sector) })
		if len(refs) > 8 || len(refs) > 0 && chance.IntN(3) == 0 {
			r := refs[chance.IntN(len(refs))]
			drop(t, s, r)
			delete(mine, r)
		} else {
			n := leaf(step)
			if len(refs) > 1 && chance.IntN(2) == 0 {
				n = above(refs[chance.IntN(len(refs))], refs[chance.IntN(len(refs))])
			}
			if r, e := s.Make(n); e == api.OK {
				hold(t, s, r)
				mine[r] = n
			} else {
				wantCode(t, "Make", e, api.ErrFull)
			}
		}
		if step%100 == 0 {
			wantCode(t, "Flush", d.Flush(), api.OK)
			s.Make(leaf(step)) // written where nothing is held, and lost
			s.Sweep()
			wantCode(t, "Crash", d.Crash(nil), api.OK)
		}
		for r, n := range mine {
			wantLoad(t, s, r, n)
		}
	}
}
