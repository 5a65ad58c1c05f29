package audit_test

import (
	"bytes"
	"fmt"
	"slices"
	"testing"

	"casemate/api"
	"casemate/audit"
	"casemate/reply"
	"casemate/req"
)

func wantCode(t *testing.T, what string, e, want api.Errno) {
	t.Helper()
	if e != want {
		t.Fatalf("%s: %v, want %v", what, e, want)
	}
}

// keyOf is some key, unlike for each number.
func keyOf(n int) api.Key {
	return api.Key{byte(n), byte(n >> 8), 31: 9}
}

// text is the block of a write, unlike for each number.
func text(n int) []byte {
	b := make([]byte, api.Sector)
	for i := range b {
		b[i] = byte(n*7 + i*n/3)
	}
	b[0], b[511] = byte(n), byte(n>>8)
	return b
}

// texts is some blocks; 0 stands for one that was not written.
func texts(numbers ...int) []byte {
	var l []byte
	for _, n := range numbers {
		if n == 0 {
			l = append(l, make([]byte, api.Sector)...)
		} else {
			l = append(l, text(n)...)
		}
	}
	return l
}

// Requests. Those of a session have its number first.
func openOf(id, key int) req.Request {
	return req.Request{Kind: req.Open, Tenant: id, Outer: keyOf(key)}
}

func addOf(id, quota int) req.Request {
	return req.Request{Kind: req.Add, Tenant: id, Outer: keyOf(id), Master: keyOf(100 + id), Salt: keyOf(200 + id), Reserve: quota, Quota: quota}
}

func limitOf(id, quota int) req.Request {
	return req.Request{Kind: req.Limit, Tenant: id, Reserve: quota, Quota: quota}
}

func shredOf(id int) req.Request {
	return req.Request{Kind: req.Shred, Tenant: id}
}

// plainOf is a request of a kind that asks for nothing but its session.
func plainOf(s, kind int) req.Request {
	return req.Request{Kind: kind, Session: s}
}

func readOf(s, n, block, count int) req.Request {
	return req.Request{Kind: req.Read, Session: s, Volume: n, Block: block, Count: count}
}

func writeOf(s, n, block int, numbers ...int) req.Request {
	return req.Request{Kind: req.Write, Session: s, Volume: n, Block: block, Data: texts(numbers...)}
}

func discardOf(s, n, block, count int) req.Request {
	return req.Request{Kind: req.Discard, Session: s, Volume: n, Block: block, Count: count}
}

func createOf(s, n, blocks int) req.Request {
	return req.Request{Kind: req.Create, Session: s, Volume: n, Count: blocks}
}

func removeOf(s, n int) req.Request {
	return req.Request{Kind: req.Remove, Session: s, Volume: n}
}

func resizeOf(s, n, blocks int) req.Request {
	return req.Request{Kind: req.Resize, Session: s, Volume: n, Count: blocks}
}

func snapshotOf(s, from, to int) req.Request {
	return req.Request{Kind: req.Snapshot, Session: s, Volume: from, To: to}
}

func rotateOf(s, outer, fresh int) req.Request {
	return req.Request{Kind: req.Rotate, Session: s, Outer: keyOf(outer), Fresh: keyOf(fresh), Salt: keyOf(81)}
}

// Replies.
func ok() reply.Reply {
	return reply.Reply{}
}

func number(n int) reply.Reply {
	return reply.Reply{Number: n}
}

func fail(e api.Errno) reply.Reply {
	return reply.Reply{E: e}
}

func failAt(e api.Errno, n int) reply.Reply {
	return reply.Reply{E: e, Number: n}
}

// read is what a Read of these blocks tells.
func read(numbers ...int) reply.Reply {
	return reply.Reply{Number: len(numbers), Data: texts(numbers...)}
}

// status is what a Status tells: of each volume its number, its blocks and how many of them were written.
func status(t *testing.T, charge, quota int, volumes ...[3]int) reply.Reply {
	t.Helper()
	s := reply.Status{Charge: charge, Reserve: quota, Quota: quota}
	for _, v := range volumes {
		s.Blocks[v[0]-1], s.Used[v[0]-1] = v[1], v[2]
	}
	b, e := reply.WriteStatus(s)
	wantCode(t, "WriteStatus", e, api.OK)
	return reply.Reply{Data: b}
}

// entryOf is an entry.
func entryOf(t *testing.T, r req.Request, a reply.Reply) audit.Entry {
	t.Helper()
	q, e := req.Encode(r)
	wantCode(t, "req.Encode", e, api.OK)
	b, e := reply.Encode(a)
	wantCode(t, "reply.Encode", e, api.OK)
	return audit.Entry{Request: q, Reply: b}
}

// made is a new book.
func made(t *testing.T, id int) *audit.Book {
	t.Helper()
	b, e := audit.New(id)
	wantCode(t, "New", e, api.OK)
	return b
}

// crash stands among entries for a crash.
var crash = audit.Entry{}

// tale is entries that all fit, of a tenant.
type tale struct {
	id int
	l  []audit.Entry
}

// book is a book that heard all.
func (x *tale) book(t *testing.T) *audit.Book {
	t.Helper()
	b := made(t, x.id)
	heard := 0
	for i, e := range x.l {
		if e.Request == nil {
			wantCode(t, "Crash", b.Crash(), api.OK)
			continue
		}
		verdict, code := b.Hear(e)
		wantCode(t, "Hear", code, api.OK)
		if verdict != audit.Fits {
			t.Fatalf("the entry %d (request %v, reply %v): %d", i, e.Request[:2], e.Reply[:6], verdict)
		}
		heard++
	}
	if b.Heard() != heard {
		t.Fatalf("Heard: %d, want %d", b.Heard(), heard)
	}
	return b
}

// and is the tale with one entry more, which must fit.
func (x *tale) and(t *testing.T, r req.Request, a reply.Reply) *tale {
	t.Helper()
	y := &tale{x.id, append(slices.Clone(x.l), entryOf(t, r, a))}
	y.book(t)
	return y
}

// crashed is the tale with a crash behind it.
func (x *tale) crashed() *tale {
	return &tale{x.id, append(slices.Clone(x.l), crash)}
}

// wantCharge fails if the charge is another one.
func (x *tale) wantCharge(t *testing.T, want int) {
	t.Helper()
	if got := x.book(t).Charge(); got != want {
		t.Fatalf("Charge: %d, want %d", got, want)
	}
}

// shown is a reply, for those who read what failed.
func shown(r reply.Reply) string {
	return fmt.Sprintf("%d %d %d bytes (%x)", int(r.E), r.Number, len(r.Data), r.Data[:min(len(r.Data), 16)])
}

// codes is all errors, and some that are none.
func codes() []api.Errno {
	return []api.Errno{0, 1, 2, 3, 4, 5, 6, 7, 8, 10, 20, 30, 31, 40, 50, 51, 52, 53, 60, 61, 62, 70, 71, 80, 255, 256, 65535}
}

// turned is bytes that are nearly some others.
func turned(b []byte) [][]byte {
	l := [][]byte{append(slices.Clone(b), 0)}
	for _, at := range []int{0, 1, 2, 3, 4, 5, 6, 7, 8, 9, 35, 36, 37, 255, 511, 512, len(b) - 1} {
		if at >= 0 && at < len(b) {
			x := slices.Clone(b)
			x[at] ^= 1 << (at % 8)
			l = append(l, x)
		}
	}
	if len(b) > 0 {
		l = append(l, b[1:], b[:len(b)-1], nil)
	}
	if len(b) > api.Sector {
		l = append(l, b[api.Sector:], b[:len(b)-api.Sector])
	}
	return append(l, append(slices.Clone(b), make([]byte, api.Sector)...))
}

// universe is many replies: all that are near some, and others.
func universe(near []reply.Reply) []reply.Reply {
	var l []reply.Reply
	add := func(e api.Errno, n int, data []byte) {
		r := reply.Reply{E: e, Number: n, Data: data}
		if _, bad := reply.Encode(r); bad == api.OK {
			l = append(l, r)
		}
	}
	for _, e := range codes() {
		for _, n := range []int{0, 1, 2, 3, 4, 5, 6, 7, 8, 9, 255, 256, 65535, 1<<31 - 1} {
			add(e, n, nil)
		}
		for _, data := range [][]byte{{0}, make([]byte, 38), texts(0)} {
			add(e, 0, data)
			add(e, 1, data)
		}
	}
	for _, r := range near {
		for _, n := range []int{0, 1, r.Number - 1, r.Number, r.Number + 1, r.Number + 256, r.Number + 65536} {
			add(r.E, n, r.Data)
			add(r.E, n, texts(1))
			add(r.E, n, texts(0, 0))
		}
		for _, data := range turned(r.Data) {
			add(r.E, r.Number, data)
		}
	}
	return append(l, near...)
}

// wantMay fails if a request may be answered otherwise than by these replies, or not by one of them. Whatever does not fit changes nothing.
func (x *tale) wantMay(t *testing.T, r req.Request, want ...reply.Reply) {
	t.Helper()
	b := x.book(t)
	charge, heard := b.Charge(), b.Heard()
	for _, a := range universe(want) {
		fits := slices.ContainsFunc(want, func(w reply.Reply) bool { return reply.Same(a, w) })
		if r.Kind == req.Open && a.E == api.OK && len(a.Data) == 0 && !fits {
			continue // numbers are asked elsewhere
		}
		verdict, e := b.Hear(entryOf(t, r, a))
		wantCode(t, "Hear", e, api.OK)
		if b.Heard() != heard+1 {
			t.Fatalf("Heard: %d behind %d", b.Heard(), heard)
		}
		if fits != (verdict == audit.Fits) || verdict == audit.Malformed {
			t.Fatalf("the kind %d, answered by %s: %d", r.Kind, shown(a), verdict)
		}
		if !fits && b.Charge() != charge {
			t.Fatalf("the kind %d, answered by %s: the charge is %d, not %d", r.Kind, shown(a), b.Charge(), charge)
		}
		b = x.book(t)
	}
}

// wantTells fails if a book does not tell that this is all that the tenant has in its session.
func (x *tale) wantTells(t *testing.T, s int, want reply.Reply, volumes map[int][]int) {
	t.Helper()
	l := []audit.Entry{entryOf(t, plainOf(s, req.Status), want)}
	for n := 1; n <= 8; n++ {
		blocks, there := volumes[n]
		if !there {
			l = append(l, entryOf(t, readOf(s, n, 0, 1), fail(api.ErrVolume)))
			continue
		}
		for from := 0; from < len(blocks); from += 8 {
			some := blocks[from:min(from+8, len(blocks))]
			l = append(l, entryOf(t, readOf(s, n, from, len(some)), read(some...)))
		}
		l = append(l, entryOf(t, readOf(s, n, len(blocks)-1, 2), failAt(api.ErrBlock, 1)))
	}
	(&tale{x.id, slices.Concat(x.l, l)}).book(t)
}

// peopled is the tenant 2, of the quota 8, whose sessions are 3 and 5. Of the volumes it has 1, of five blocks, and 2, of twelve, both committed, and 4, which is a snapshot of 2 as it is now.
func peopled(t *testing.T) *tale {
	t.Helper()
	x := (&tale{id: 2}).
		and(t, addOf(2, 8), ok()).
		and(t, openOf(2, 2), number(3)).
		and(t, openOf(2, 2), number(5)).
		and(t, createOf(3, 1, 5), ok()).
		and(t, createOf(5, 2, 12), ok()).
		and(t, writeOf(3, 1, 0, 11, 12), number(2)).
		and(t, writeOf(3, 2, 9, 13, 14, 15), number(3)).
		and(t, plainOf(5, req.Commit), ok()).
		and(t, writeOf(5, 2, 1, 16), number(1)).
		and(t, discardOf(5, 2, 9, 2), number(2)).
		and(t, snapshotOf(5, 2, 4), ok())
	return x
}

// now is what peopled has.
func now() map[int][]int {
	return map[int][]int{1: {11, 12, 0, 0, 0}, 2: {0, 16, 0, 0, 0, 0, 0, 0, 0, 0, 0, 15}, 4: {0, 16, 0, 0, 0, 0, 0, 0, 0, 0, 0, 15}}
}

// kept is what it had when it was committed.
func kept() map[int][]int {
	return map[int][]int{1: {11, 12, 0, 0, 0}, 2: {0, 0, 0, 0, 0, 0, 0, 0, 0, 13, 14, 15}}
}

// Six writes are named by peopled: 11 to 16.
func peopledStatus(t *testing.T) reply.Reply {
	return status(t, 6, 8, [3]int{1, 5, 2}, [3]int{2, 12, 2}, [3]int{4, 12, 2})
}

func keptStatus(t *testing.T) reply.Reply {
	return status(t, 5, 8, [3]int{1, 5, 2}, [3]int{2, 12, 3})
}

// same fails if bytes have changed.
func same(t *testing.T, what string, got, want []byte) {
	t.Helper()
	if !bytes.Equal(got, want) {
		t.Fatalf("%s has changed", what)
	}
}
