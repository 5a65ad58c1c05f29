package task_test

import (
	"bytes"
	"math"
	"testing"

	"casemate/api"
	"casemate/core"
	"casemate/reply"
	"casemate/req"
	"casemate/task"
	"casemate/thin"
)

// each is a request of each kind that may be, but Open and Close, by its kind.
func each() map[int]req.Request {
	return map[int]req.Request{
		req.Read:     {Kind: req.Read, Session: 1, Volume: 2, Block: 3, Count: 4},
		req.Write:    {Kind: req.Write, Session: 1, Volume: 2, Block: 3, Data: make([]byte, 1536)},
		req.Discard:  {Kind: req.Discard, Session: 1, Volume: 2, Block: 3, Count: 16},
		req.Create:   {Kind: req.Create, Session: 1, Volume: 3, Count: 4},
		req.Remove:   {Kind: req.Remove, Session: 1, Volume: 2},
		req.Resize:   {Kind: req.Resize, Session: 1, Volume: 2, Count: 4},
		req.Snapshot: {Kind: req.Snapshot, Session: 1, Volume: 2, To: 3},
		req.Commit:   {Kind: req.Commit, Session: 1},
		req.Abort:    {Kind: req.Abort, Session: 1},
		req.Rotate:   {Kind: req.Rotate, Session: 1, Outer: keyOf(1), Fresh: keyOf(7), Salt: keyOf(8)},
		req.Status:   {Kind: req.Status, Session: 1},
		req.Add:      {Kind: req.Add, Tenant: 3, Outer: keyOf(3), Master: keyOf(4), Salt: keyOf(5), Reserve: 1, Quota: 2},
		req.Limit:    {Kind: req.Limit, Tenant: 1, Reserve: 6, Quota: 50},
		req.Shred:    {Kind: req.Shred, Tenant: 2},
	}
}

// isOfSession tells whether a request is one of a session.
func isOfSession(r req.Request) bool {
	return r.Kind != req.Add && r.Kind != req.Limit && r.Kind != req.Shred
}

// wantNoTask fails if there is a task of a request.
func wantNoTask(t *testing.T, r req.Request, want api.Errno) {
	t.Helper()
	if k, e := task.Start(r); k != nil || e != want {
		t.Fatalf("Start of the kind %d: %v, %v, want %v", r.Kind, k, e, want)
	}
}

// P30.1: a task of each kind, ahead of its first step.
func TestStart(t *testing.T) {
	for kind, r := range each() {
		wantOpen(t, started(t, r), 0, map[int]int{req.Read: 4, req.Write: 3, req.Discard: 16}[kind]+map[bool]int{true: 1}[kind > req.Discard])
	}
	for _, r := range []req.Request{{Kind: req.Create}, {Kind: req.Resize, Count: 65535}, {Kind: req.Create, Volume: 255, Count: 8}, {Kind: req.Limit}} {
		wantOpen(t, started(t, r), 0, 1)
	}
	for count := 1; count <= 256; count++ {
		wantOpen(t, started(t, discardOf(1, 65535, count).r), 0, count)
		if count <= 8 {
			wantOpen(t, started(t, readOf(255, 0, count).r), 0, count)
			wantOpen(t, started(t, req.Request{Kind: req.Write, Data: make([]byte, 512*count)}), 0, count)
		}
	}
}

// P30.1: Open and Close, which are no tasks'; those that may not be are told so first.
func TestStartOpenClose(t *testing.T) {
	for _, r := range []req.Request{{Kind: req.Open}, {Kind: req.Open, Tenant: 255, Outer: keyOf(1)}, {Kind: req.Close}, {Kind: req.Close, Session: 65535}, {Kind: req.Close, Data: []byte{}}} {
		wantNoTask(t, r, api.ErrArg)
	}
	for _, r := range []req.Request{{Kind: req.Open, Tenant: 256}, {Kind: req.Open, Tenant: -1}, {Kind: req.Open, Session: 1}, {Kind: req.Open, Fresh: keyOf(1)}, {Kind: req.Close, Session: -1}, {Kind: req.Close, Session: 65536}, {Kind: req.Close, Tenant: 1}, {Kind: req.Close, Data: []byte{0}}} {
		wantNoTask(t, r, api.ErrForm)
	}
}

// P30.1: requests that may not be, of all kinds and of none.
func TestStartWrong(t *testing.T) {
	for _, kind := range []int{math.MinInt, -1, 0, 17, 18, 255, 256, 256 + req.Read, 1<<32 + req.Commit, math.MaxInt} {
		wantNoTask(t, req.Request{Kind: kind}, api.ErrForm)
		wantNoTask(t, req.Request{Kind: kind, Count: 1, Data: make([]byte, 512)}, api.ErrForm)
	}
	for _, r := range each() {
		for _, n := range []int{math.MinInt, -1, 65536, 1 << 32, math.MaxInt} {
			wrong := r
			wrong.Session = n
			wantNoTask(t, wrong, api.ErrForm)
			wrong = r
			wrong.Tenant = n
			wantNoTask(t, wrong, api.ErrForm)
			wrong = r
			wrong.Count = n
			wantNoTask(t, wrong, api.ErrForm)
			wrong = r
			wrong.Block = n
			wantNoTask(t, wrong, api.ErrForm)
		}
		wrong := r
		wrong.Data = make([]byte, 511)
		wantNoTask(t, wrong, api.ErrForm)
	}
	for _, count := range []int{0, 9, 16, 256, 257} {
		wantNoTask(t, readOf(1, 0, count).r, api.ErrForm)
		wantNoTask(t, req.Request{Kind: req.Write, Data: make([]byte, 512*count)}, api.ErrForm)
	}
	for _, count := range []int{0, 257, 512} {
		wantNoTask(t, discardOf(1, 0, count).r, api.ErrForm)
	}
	for _, length := range []int{1, 511, 513, 4095, 4097} {
		wantNoTask(t, req.Request{Kind: req.Write, Data: make([]byte, length)}, api.ErrForm)
	}
}

// P30.1, P1: a task that is nil, or that no call made, with each call.
func TestNone(t *testing.T) {
	b := peopled(t)
	for _, k := range []*task.Task{nil, {}, new(task.Task)} {
		b.wantStill(t, func() {
			for range 3 {
				for _, c := range []*core.Core{nil, {}, b.c} {
					for _, v := range []*thin.View{nil, {}, b.l[1].v} {
						if !k.Step(c, v) {
							t.Fatal("a task that is none goes on")
						}
					}
				}
			}
		})
		if !k.Done() || k.Steps() != 0 || k.Most() != 0 {
			t.Errorf("Done %v, Steps %d, Most %d", k.Done(), k.Steps(), k.Most())
		}
		wantReply(t, "Reply", k.Reply(), reply.Reply{E: api.ErrNil})
	}
}

// P30.1, P30.3: the document's example, and what is told ahead of the first step, between steps, behind the last one, and behind further ones.
func TestThreeSteps(t *testing.T) {
	b := peopled(t)
	k := started(t, readOf(2, 4, 3).r)
	for step := range 3 {
		wantOpen(t, k, step, 3)
		if k.Step(b.c, b.l[1].v) != (step == 2) {
			t.Fatalf("the step %d", step)
		}
	}
	wantEnded(t, k, 3, 3, readOf(2, 4, 3).end(b.l[1].working))
	b.wantIdle(t, k, b.l[1].v)
}

// P30.1: an error ends a task, at a step ahead of Most; that step counts.
func TestEndsEarly(t *testing.T) {
	b := peopled(t)
	k := started(t, readOf(1, 3, 8).r)
	for step := range 3 {
		wantOpen(t, k, step, 8)
		if k.Step(b.c, b.l[1].v) != (step == 2) {
			t.Fatalf("the step %d", step)
		}
	}
	wantEnded(t, k, 3, 8, reply.Reply{E: api.ErrBlock, Number: 2})
	b.wantIdle(t, k, b.l[1].v)
}

// P30.1: a task shares nothing with the request that it was handed: neither its data nor what lies behind them are changed, and they may be changed by others.
func TestStartApart(t *testing.T) {
	b := peopled(t)
	u := b.l[2]
	o := b.writeOf(1, 4, 3)
	want := o.end(u.working)
	data := append(bytes.Clone(o.r.Data), 7, 7, 7, 7)
	kept := bytes.Clone(data)
	r := o.r
	r.Data = data[:len(o.r.Data)]
	wantReply(t, "Write", b.run(t, r, u.v), want)
	if !bytes.Equal(data, kept) {
		t.Error("the data were changed")
	}
	b.want(t)
	b.put(t, u, 1, 4, 5, 6)
	again := &course{r: o.r, first: o.first}
	k := started(t, r)
	for !k.Done() {
		clear(data)
		k.Step(b.c, u.v)
	}
	wantEnded(t, k, 3, 3, again.end(u.working))
	b.want(t)
}

// P30.1: what a task tells is new memory each time.
func TestReplyApart(t *testing.T) {
	b := peopled(t)
	want := readOf(2, 3, 5).end(b.l[1].working)
	k := started(t, readOf(2, 3, 5).r)
	for !k.Step(b.c, b.l[1].v) {
		clear(k.Reply().Data)
	}
	for range 3 {
		got := k.Reply()
		wantReply(t, "Reply", got, want)
		clear(got.Data)
		_ = append(got.Data[:0], bytes.Repeat([]byte{9}, 4096)...)
	}
	b.want(t)
}
