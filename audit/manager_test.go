package audit_test

import (
	"math/rand/v2"
	"slices"
	"testing"

	"casemate/api"
	"casemate/audit"
	"casemate/core"
	"casemate/disk"
	"casemate/hashlog"
	"casemate/mgr"
	"casemate/reply"
	"casemate/req"
)

// bed is a manager, and what each tenant was answered.
type bed struct {
	d      *disk.Disk
	m      *mgr.Manager
	books  [9]*audit.Book
	tales  [9]*tale
	waits  map[uint64]req.Request
	writes int
	told   map[[2]int]int // how often each error was told to each kind
}

func fresh(t *testing.T, sectors int) *bed {
	t.Helper()
	d, e := disk.New(sectors)
	wantCode(t, "disk.New", e, api.OK)
	wantCode(t, "Format", core.Format(d), api.OK)
	m, e := mgr.New(d, hashlog.New())
	wantCode(t, "mgr.New", e, api.OK)
	b := &bed{d: d, m: m, waits: map[uint64]req.Request{}, told: map[[2]int]int{}}
	for id := 1; id <= 8; id++ {
		b.books[id], b.tales[id] = made(t, id), &tale{id: id}
	}
	return b
}

// submit submits a request, and tells whether it waits.
func (b *bed) submit(t *testing.T, r req.Request) bool {
	t.Helper()
	l, e := req.Encode(r)
	wantCode(t, "Encode", e, api.OK)
	ticket, e := b.m.Submit(l)
	if e != api.OK {
		return false
	}
	b.waits[ticket] = r
	return true
}

// heard lets the book of a tenant hear what a pick told. What a manager answers fits.
func (b *bed) heard(t *testing.T, id int, ticket uint64, a reply.Reply, ended bool, e api.Errno) {
	t.Helper()
	if e != api.OK || !ended {
		return
	}
	r := b.waits[ticket]
	delete(b.waits, ticket)
	b.told[[2]int{r.Kind, int(a.E)}]++
	x := entryOf(t, r, a)
	b.tales[id].l = append(b.tales[id].l, x)
	verdict, code := b.books[id].Hear(x)
	if verdict != audit.Fits || code != api.OK {
		t.Fatalf("the tenant %d, the kind %d %v, answered by %s: %d, %v", id, r.Kind, r.Volume, shown(a), verdict, code)
	}
}

// pick picks a lane.
func (b *bed) pick(t *testing.T, id int) {
	t.Helper()
	ticket, a, ended, e := b.m.Pick(id)
	b.heard(t, id, ticket, a, ended, e)
}

// crash crashes the manager, and all books.
func (b *bed) crash(t *testing.T, keep []byte) {
	t.Helper()
	wantCode(t, "Crash", b.m.Crash(keep), api.OK)
	clear(b.waits)
	for id := 1; id <= 8; id++ {
		wantCode(t, "Crash", b.books[id].Crash(), api.OK)
		b.tales[id].l = append(b.tales[id].l, crash)
	}
}

// ask does a request in a lane in which nothing waits: what was answered.
func (b *bed) ask(t *testing.T, id int, r req.Request) reply.Reply {
	t.Helper()
	if !b.submit(t, r) {
		t.Fatalf("the kind %d does not wait", r.Kind)
	}
	for {
		ticket, a, ended, e := b.m.Pick(id)
		wantCode(t, "Pick", e, api.OK)
		b.heard(t, id, ticket, a, ended, e)
		if ended {
			return a
		}
	}
}

// drain picks all lanes till nothing waits.
func (b *bed) drain(t *testing.T) {
	t.Helper()
	for id := 1; id <= 8; id++ {
		for b.m.Waits(id) > 0 {
			b.pick(t, id)
		}
	}
}

// wantBooks fails if a book does not charge its tenant as the manager does, where no lane is at a request.
func (b *bed) wantBooks(t *testing.T) {
	t.Helper()
	for id := 1; id <= 8; id++ {
		if got, want := b.books[id].Charge(), b.m.Core().Field().Charge(id); got != want {
			t.Fatalf("the charge of %d: %d, want %d", id, got, want)
		}
	}
}

// wishes asks for things by chance, of small numbers, so that they often have to do with one another.
type wishes struct {
	chance *rand.Rand
	keys   [9]int // the outer key of each tenant, as it was asked for last
	opened []int  // the sessions that there are
	quotas int    // how great quotas may be
	writes *int
}

// session is the number of some session, often of one that there is.
func (w *wishes) session() int {
	if len(w.opened) > 0 && w.chance.IntN(9) > 0 {
		return w.opened[w.chance.IntN(len(w.opened))]
	}
	return w.chance.IntN(12)
}

// key is often the outer key of a tenant.
func (w *wishes) key(id int) int {
	if w.chance.IntN(5) == 0 {
		return w.chance.IntN(4)
	}
	return w.keys[id]
}

// ofTenant is a request of a tenant, if its number is one of four.
func (w *wishes) ofTenant(id int) req.Request {
	c := w.chance
	switch c.IntN(12) {
	case 0, 1, 2, 3, 4, 5:
		r := openOf(id, 0)
		r.Outer = keyOf(w.key(id))
		return r
	case 6, 7, 8:
		r := addOf(id, c.IntN(w.quotas))
		r.Outer = keyOf(w.keys[id])
		return r
	case 9, 10:
		return limitOf(id, c.IntN(w.quotas))
	}
	if c.IntN(3) == 0 {
		return shredOf(id)
	}
	return limitOf(id, 10+c.IntN(9))
}

// ofSession is a request of a session.
func (w *wishes) ofSession(s, id int) req.Request {
	c := w.chance
	n, block, size := c.IntN(5), c.IntN(12), 1+c.IntN(8)
	switch c.IntN(24) {
	case 0:
		return plainOf(s, req.Close)
	case 1, 2, 3, 4:
		return readOf(s, n, block, size)
	case 5, 6, 7, 8, 9, 10:
		numbers := make([]int, size)
		for i := range numbers {
			*w.writes++
			numbers[i] = *w.writes
		}
		return writeOf(s, n, block, numbers...)
	case 11, 12:
		return discardOf(s, n, block, 1+c.IntN(20))
	case 13, 14, 15:
		return createOf(s, n, c.IntN(20))
	case 16:
		return removeOf(s, n)
	case 17:
		return resizeOf(s, n, c.IntN(20))
	case 18, 19:
		return snapshotOf(s, n, c.IntN(6))
	case 20:
		return plainOf(s, req.Abort)
	case 21:
		return plainOf(s, req.Status)
	case 22:
		fresh := c.IntN(4)
		outer := w.key(id)
		return rotateOf(s, outer, fresh)
	}
	return plainOf(s, req.Commit)
}

// request is some request, and the tenant in whose lane it would be.
func (w *wishes) request(b *bed) req.Request {
	w.opened = b.m.Sessions()
	id := 1 + w.chance.IntN(4)
	if w.chance.IntN(4) == 0 {
		return w.ofTenant(id)
	}
	return w.ofSession(w.session(), id)
}

// learn takes a key that was asked for as the outer one.
func (w *wishes) learn(r req.Request, id int, a reply.Reply) {
	if r.Kind == req.Rotate && a.E == api.OK {
		w.keys[id] = int(r.Fresh[0])
	}
}

// P34.3, P6, P10: what a manager answers to tenants whose reserve is their quota fits, whatever others ask between, in whatever order lanes are picked, and behind crashes; and the books charge as it does. P34.5: so does each beginning, which was heard ahead.
func TestManager(t *testing.T) {
	t.Parallel()
	told := map[[2]int]int{}
	for seed := range uint64(16) {
		b := fresh(t, 1000)
		w := &wishes{chance: rand.New(rand.NewPCG(seed, 34)), quotas: []int{300, 20, 130, 9}[seed%4], writes: &b.writes}
		for id := range w.keys {
			w.keys[id] = id % 4
		}
		for range 3000 {
			b.step(t, w)
		}
		b.drain(t)
		b.wantBooks(t)
		for id := 1; id <= 4; id++ {
			b.tales[id].book(t)
		}
		for k, n := range b.told {
			told[k] += n
		}
	}
	wantTold(t, told, map[int][]api.Errno{
		req.Open: {0, api.ErrTenant, api.ErrFull, api.ErrKey}, req.Close: {0, api.ErrNone},
		req.Read:    {0, api.ErrTenant, api.ErrVolume, api.ErrBlock, api.ErrNone},
		req.Write:   {0, api.ErrTenant, api.ErrVolume, api.ErrBlock, api.ErrQuota, api.ErrNone},
		req.Discard: {0, api.ErrTenant, api.ErrVolume, api.ErrBlock, api.ErrNone},
		req.Create:  {0, api.ErrTenant, api.ErrVolume, api.ErrArg, api.ErrThere}, req.Remove: {0, api.ErrTenant, api.ErrVolume},
		req.Resize: {0, api.ErrTenant, api.ErrVolume, api.ErrArg}, req.Snapshot: {0, api.ErrTenant, api.ErrVolume, api.ErrThere},
		req.Commit: {0, api.ErrTenant}, req.Abort: {0, api.ErrTenant}, req.Status: {0, api.ErrTenant}, req.Rotate: {0, api.ErrTenant, api.ErrKey},
		req.Add: {0, api.ErrThere, api.ErrArg, api.ErrPool}, req.Limit: {0, api.ErrTenant, api.ErrQuota, api.ErrArg, api.ErrPool}, req.Shred: {0, api.ErrTenant},
	})
}

// wantTold fails if an error was hardly told to a kind.
func wantTold(t *testing.T, told map[[2]int]int, want map[int][]api.Errno) {
	t.Helper()
	for kind, l := range want {
		for _, e := range l {
			if told[[2]int{kind, int(e)}] < 3 {
				t.Errorf("%v was told %d times to the kind %d", e, told[[2]int{kind, int(e)}], kind)
			}
		}
	}
}

// step does a step of a life by chance.
func (b *bed) step(t *testing.T, w *wishes) {
	t.Helper()
	switch kind := w.chance.IntN(100); {
	case kind < 40:
		b.submit(t, w.request(b))
	case kind < 99:
		id := 1 + w.chance.IntN(4)
		ticket, a, ended, e := b.m.Pick(id)
		w.learn(b.waits[ticket], id, a)
		b.heard(t, id, ticket, a, ended, e)
	case w.chance.IntN(3) == 0:
		b.crash(t, []byte{byte(w.chance.Uint32())})
		b.wantBooks(t)
	}
}

// P34.3: others whose reserve is not their quota, that have no books, take all that they can get, and all sessions; what is answered to the tenant 1 fits.
func TestManagerCrowd(t *testing.T) {
	t.Parallel()
	for seed := range uint64(6) {
		b := fresh(t, 300)
		w := &wishes{chance: rand.New(rand.NewPCG(seed, 343)), quotas: 12, writes: &b.writes}
		for id := range w.keys {
			w.keys[id] = id % 4
		}
		for range 2000 {
			r := w.request(b)
			switch w.chance.IntN(8) {
			case 0, 1, 2:
				b.submit(t, r)
			case 3:
				if r.Kind == req.Add || r.Kind == req.Limit {
					r.Tenant, r.Reserve, r.Quota = 2+w.chance.IntN(3), w.chance.IntN(4), 70
					b.submit(t, r)
				}
			case 4, 5:
				b.m.Pick(2 + w.chance.IntN(3))
			default:
				b.pick(t, 1)
			}
		}
		for b.m.Waits(1) > 0 {
			b.pick(t, 1)
		}
		if got, want := b.books[1].Charge(), b.m.Core().Field().Charge(1); got != want {
			t.Fatalf("the charge: %d, want %d", got, want)
		}
	}
}

// P34.3: an Open where others have all sessions, whether there is the tenant or not.
func TestManagerSessions(t *testing.T) {
	b := fresh(t, 300)
	wantCode(t, "Add", b.ask(t, 1, addOf(1, 3)).E, api.OK)
	for range 8 {
		wantCode(t, "Open", b.ask(t, 1, openOf(1, 1)).E, api.OK)
	}
	wantCode(t, "Open", b.ask(t, 1, openOf(1, 1)).E, api.ErrFull)
	wantCode(t, "Open", b.ask(t, 2, openOf(2, 2)).E, api.ErrFull)
	wantCode(t, "Add", b.ask(t, 2, addOf(2, 3)).E, api.OK)
	wantCode(t, "Open", b.ask(t, 2, openOf(2, 3)).E, api.ErrFull)
	wantCode(t, "Close", b.ask(t, 1, plainOf(4, req.Close)).E, api.OK)
	wantCode(t, "Open", b.ask(t, 2, openOf(2, 3)).E, api.ErrKey)
	if a := b.ask(t, 2, openOf(2, 2)); a.E != api.OK || a.Number != 9 {
		t.Errorf("Open: %s", shown(a))
	}
}

// P34.3: at each sector that somebody turned, what a manager answers to requests of sessions fits, be it ErrIntegrity; and what was not done is not done.
func TestManagerTurned(t *testing.T) {
	t.Parallel()
	told := map[[2]int]int{}
	for seed := range uint64(8) {
		b := fresh(t, 220)
		w := &wishes{chance: rand.New(rand.NewPCG(seed, 344)), quotas: 30, writes: &b.writes}
		b.ask(t, 1, addOf(1, 40))
		for range 4 {
			b.ask(t, 1, openOf(1, 1))
		}
		w.keys[1] = 1
		for range 900 {
			// One of the tenant's slots, of the first nodes, or of the first blocks.
			s := uint32([]int{2 + w.chance.IntN(2), 18 + w.chance.IntN(50), 18 + w.chance.IntN(50), 170 + w.chance.IntN(40)}[w.chance.IntN(4)])
			was, e := b.d.Read(s)
			wantCode(t, "Read", e, api.OK)
			noise := slices.Clone(was)
			noise[w.chance.IntN(512)] ^= 1 << w.chance.IntN(8)
			wantCode(t, "Tamper", b.d.Tamper(s, noise), api.OK)
			for range 1 + w.chance.IntN(4) {
				w.opened = b.m.Sessions()
				r := w.ofSession(w.opened[w.chance.IntN(len(w.opened))], 1)
				if r.Kind == req.Close {
					r = openOf(1, 1)
					r.Outer = keyOf(w.key(1))
				}
				w.learn(r, 1, b.ask(t, 1, r))
			}
			if shows, e := b.d.Read(s); e == api.OK && slices.Equal(shows, noise) {
				wantCode(t, "Tamper", b.d.Tamper(s, was), api.OK)
			}
			b.wantBooks(t)
		}
		for k, n := range b.told {
			told[k] += n
		}
	}
	l := []api.Errno{0, api.ErrIntegrity}
	wantTold(t, told, map[int][]api.Errno{req.Open: l, req.Read: l, req.Write: l, req.Discard: l, req.Create: l, req.Remove: l, req.Resize: l, req.Snapshot: l, req.Commit: l, req.Abort: l, req.Rotate: l, req.Status: l})
}

// P34.4, P34.5: of what a manager answered each beginning fits; with one reply that is turned it fits up to that one.
func TestManagerReplies(t *testing.T) {
	t.Parallel()
	turned := 0
	for seed := range uint64(4) {
		b := fresh(t, 300)
		w := &wishes{chance: rand.New(rand.NewPCG(seed, 345)), quotas: 30, writes: &b.writes}
		b.ask(t, 1, addOf(1, 25))
		b.ask(t, 1, openOf(1, 1))
		b.ask(t, 1, openOf(1, 1))
		w.keys[1], w.opened = 1, []int{1, 2}
		for range 120 {
			r := w.ofSession(w.session(), 1)
			for r.Kind == req.Close || r.Session > 2 || r.Session == 0 {
				r = w.ofSession(w.session(), 1)
			}
			w.learn(r, 1, b.ask(t, 1, r))
		}
		l := b.tales[1].l
		for i, x := range l {
			wantJudged(t, 1, l[:i], i, audit.Fits)
			if i < 3 {
				continue
			}
			r, _ := req.Decode(x.Request)
			a, _ := reply.Decode(x.Reply)
			for _, a := range turnedReplies(a, w.chance) {
				turned++
				wantJudged(t, 1, slices.Concat(l[:i], []audit.Entry{entryOf(t, r, a)}, l[i:]), i, audit.Otherwise)
			}
		}
	}
	if turned < 1500 {
		t.Errorf("only %d replies were turned", turned)
	}
}

// turnedReplies is replies that are nearly another one, all of which are of other data, or of another number.
func turnedReplies(a reply.Reply, chance *rand.Rand) []reply.Reply {
	l := []reply.Reply{fail(api.ErrDown), {E: a.E, Number: a.Number + 1, Data: a.Data}}
	if a.Number > 0 {
		l = append(l, reply.Reply{E: a.E, Number: a.Number - 1, Data: a.Data})
	}
	if len(a.Data) < 4096 {
		l = append(l, reply.Reply{E: a.E, Number: a.Number, Data: append(slices.Clone(a.Data), 0)})
	}
	for at := 0; at < len(a.Data); at += 1 + chance.IntN(300) {
		data := slices.Clone(a.Data)
		data[at] ^= 1 << chance.IntN(8)
		l = append(l, reply.Reply{E: a.E, Number: a.Number, Data: data})
	}
	return l
}
