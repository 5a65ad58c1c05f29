package desk_test

import (
	"bytes"
	"encoding/hex"
	"fmt"
	"testing"

	"casemate/api"
	"casemate/core"
	"casemate/desk"
	"casemate/disk"
	"casemate/hashlog"
	"casemate/mgr"
	"casemate/reply"
	"casemate/req"
	"casemate/scrub"
)

func wantCode(t *testing.T, what string, e, want api.Errno) {
	t.Helper()
	if e != want {
		t.Fatalf("%s: %v, want %v", what, e, want)
	}
}

// twin is what a desk has: what a line tells must be what it tells, asked by its calls.
type twin struct {
	d *disk.Disk
	m *mgr.Manager
}

func newTwin(t *testing.T) *twin {
	t.Helper()
	d, e := disk.New(1000)
	wantCode(t, "disk.New", e, api.OK)
	wantCode(t, "Format", core.Format(d), api.OK)
	m, e := mgr.New(d, hashlog.New())
	wantCode(t, "mgr.New", e, api.OK)
	return &twin{d, m}
}

// tells is what a line tells, of an error, or of words.
func tells(e api.Errno, words ...any) string {
	if e != api.OK {
		return fmt.Sprintf("err %d", int(e))
	}
	s := "ok"
	for _, w := range words {
		s += fmt.Sprint(" ", w)
	}
	return s
}

// command is a line, and what it asks of a twin.
type command struct {
	line string
	ask  func(x *twin) string
}

// hexed is bytes as a word.
func hexed(b []byte) string {
	if len(b) == 0 {
		return "-"
	}
	return hex.EncodeToString(b)
}

func submitBytes(b []byte) command {
	return command{"submit " + hexed(b), func(x *twin) string {
		ticket, e := x.m.Submit(b)
		return tells(e, ticket)
	}}
}

func submit(t *testing.T, r req.Request) command {
	t.Helper()
	b, e := req.Encode(r)
	wantCode(t, "Encode", e, api.OK)
	return submitBytes(b)
}

// picked is what a pick tells.
func picked(ticket uint64, r reply.Reply, ended bool, e api.Errno) string {
	if e == api.OK && !ended {
		return tells(e, ticket, "wait")
	}
	b, _ := reply.Encode(r)
	return tells(e, ticket, hexed(b))
}

func pick(n int) command {
	return command{fmt.Sprint("pick ", n), func(x *twin) string { return picked(x.m.Pick(n)) }}
}

func next() command {
	return command{"next", func(x *twin) string { return picked(x.m.Next()) }}
}

func crash(keep []byte) command {
	return command{"crash " + hexed(keep), func(x *twin) string { return tells(x.m.Crash(keep)) }}
}

func fail(n int) command {
	return command{fmt.Sprint("fail ", n), func(x *twin) string { return tells(x.d.Fail(n)) }}
}

func tamper(n, m int) command {
	return command{fmt.Sprint("tamper ", n, " ", m), func(x *twin) string {
		return tells(x.d.Tamper(uint32(n), bytes.Repeat([]byte{byte(m % 256)}, 512)))
	}}
}

func sessions() command {
	return command{"sessions", func(x *twin) string {
		var words []any
		for _, n := range x.m.Sessions() {
			words = append(words, n)
		}
		return tells(api.OK, words...)
	}}
}

func waits(n int) command {
	return command{fmt.Sprint("waits ", n), func(x *twin) string { return tells(api.OK, x.m.Waits(n)) }}
}

func look(n int) command {
	return command{fmt.Sprint("look ", n), func(x *twin) string {
		r, e := scrub.Look(x.m.Core(), n)
		return tells(e, r.Volumes, r.Blocks, r.Bad)
	}}
}

func books() command {
	return command{"books", func(x *twin) string {
		right, e := scrub.Books(x.m.Core())
		return tells(e, map[bool]int{true: 1}[right])
	}}
}

func state() command {
	return command{"state", func(x *twin) string {
		return tells(api.OK, x.m.Core().Gen(), x.m.Core().Epoch(), x.d.Calls())
	}}
}

// bed is a desk and its twin, of which the same is asked.
type bed struct {
	d *desk.Desk
	x *twin
}

func fresh(t *testing.T) *bed {
	t.Helper()
	d, e := desk.New()
	wantCode(t, "New", e, api.OK)
	return &bed{d, newTwin(t)}
}

// do plays a line, which must tell what the twin does: what it tells.
func (b *bed) do(t *testing.T, c command) string {
	t.Helper()
	want := c.ask(b.x)
	got, e := b.d.Line(c.line)
	if got != want || e != api.OK {
		t.Fatalf("%.60s: %q, %v, want %q", c.line, got, e, want)
	}
	return got
}

// wantLine plays a line, which must tell just that, and what the twin does.
func (b *bed) wantLine(t *testing.T, c command, want string) {
	t.Helper()
	if got := b.do(t, c); got != want {
		t.Fatalf("%.60s: %q, want %q", c.line, got, want)
	}
}

// wantAll asks all lines that change nothing.
func (b *bed) wantAll(t *testing.T) {
	t.Helper()
	b.do(t, sessions())
	b.do(t, books())
	b.do(t, state())
	for n := range 10 {
		b.do(t, waits(n))
		b.do(t, look(n))
	}
}

// wantTwin fails if the disks are unlike.
func (b *bed) wantTwin(t *testing.T) {
	t.Helper()
	b.wantAll(t)
	got, _ := b.d.Disk().Reg()
	if want, _ := b.x.d.Reg(); got != want {
		t.Fatal("the registers are unlike")
	}
	if b.d.Disk().Waits() != b.x.d.Waits() || b.d.Disk().Down() != b.x.d.Down() {
		t.Fatal("other writes wait, or the disk is down")
	}
	for s := range uint32(1000) {
		got, _ := b.d.Disk().Read(s)
		want, _ := b.x.d.Read(s)
		sure, _ := b.d.Disk().Sure(s)
		should, _ := b.x.d.Sure(s)
		if !bytes.Equal(got, want) || !bytes.Equal(sure, should) {
			t.Fatalf("the sector %d is unlike", s)
		}
	}
}

// ended plays a request to its end in the lane of a tenant in which nothing waits: what is told then.
func (b *bed) ended(t *testing.T, id int, r req.Request) string {
	t.Helper()
	b.do(t, submit(t, r))
	for {
		if b.do(t, pick(id)); b.x.m.Waits(id) == 0 {
			return b.do(t, waits(id))
		}
	}
}

// keyOf is some key, unlike for each number.
func keyOf(n int) api.Key {
	return api.Key{byte(n), 31: 9}
}

// Requests. Those of a session have its number first.
func openOf(id int) req.Request {
	return req.Request{Kind: req.Open, Tenant: id, Outer: keyOf(id)}
}

func addOf(id, reserve, quota int) req.Request {
	return req.Request{Kind: req.Add, Tenant: id, Outer: keyOf(id), Master: keyOf(100 + id), Salt: keyOf(200 + id), Reserve: reserve, Quota: quota}
}

func plainOf(s, kind int) req.Request {
	return req.Request{Kind: kind, Session: s}
}

func createOf(s, n, blocks int) req.Request {
	return req.Request{Kind: req.Create, Session: s, Volume: n, Count: blocks}
}

func readOf(s, n, block, count int) req.Request {
	return req.Request{Kind: req.Read, Session: s, Volume: n, Block: block, Count: count}
}

func writeOf(s, n, block, size, text int) req.Request {
	var data []byte
	for i := range size {
		data = append(data, bytes.Repeat([]byte{byte(text + i), 7}, 256)...)
	}
	return req.Request{Kind: req.Write, Session: s, Volume: n, Block: block, Data: data}
}

// peopled is a desk of the tenants 1, which has a volume of which some blocks are written and committed, and others written, and 2, which has none. The sessions 1 and 2 are of these.
func peopled(t *testing.T) *bed {
	t.Helper()
	b := fresh(t)
	for id := 1; id <= 2; id++ {
		b.ended(t, id, addOf(id, 3, 9))
		b.ended(t, id, openOf(id))
	}
	b.ended(t, 1, createOf(1, 4, 20))
	b.ended(t, 1, writeOf(1, 4, 2, 3, 10))
	b.ended(t, 1, plainOf(1, req.Commit))
	b.ended(t, 1, writeOf(1, 4, 7, 2, 20))
	b.wantTwin(t)
	return b
}
