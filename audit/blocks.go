package audit

import (
	"slices"

	"casemate/api"
	"casemate/reply"
	"casemate/req"
)

// blocks is what may be answered to a Read, a Write or a Discard: what it ends with, or ErrIntegrity at any block up to that end.
func (b *Book) blocks(q req.Request, number int) []outcome {
	reached, e := b.reach(q)
	end := reply.Reply{E: e, Number: reached}
	if e == api.OK {
		end = b.whole(q)
	}
	l := []outcome{{end, func() { b.advance(q, reached) }}}
	if number <= reached && number < req.Blocks(q) {
		turned := reply.Reply{E: api.ErrIntegrity, Number: number}
		l = append(l, outcome{turned, func() { b.advance(q, number) }})
	}
	return l
}

// whole is the reply to a request all of whose blocks can be done.
func (b *Book) whole(q req.Request) reply.Reply {
	r := reply.Reply{Number: req.Blocks(q)}
	v := b.now[q.Volume]
	switch q.Kind {
	case req.Read:
		for i := range q.Count {
			r.Data = append(r.Data, b.text(v, q.Block+i)...)
		}
	case req.Discard:
		r.Number = 0
		for i := range q.Count {
			if _, written := v.writes[q.Block+i]; written {
				r.Number++
			}
		}
	}
	return r
}

// text is what a block of a volume tells: noughts, if it was not written.
func (b *Book) text(v volume, block int) []byte {
	if write, written := v.writes[block]; written {
		return b.texts[write]
	}
	return make([]byte, api.Sector)
}

// reach is how many blocks of a request can be done, and the error at the one behind them; OK, if all can. What is written is charged while what stood there is, too.
func (b *Book) reach(q req.Request) (int, api.Errno) {
	if !b.now.has(q.Volume) {
		return 0, api.ErrVolume
	}
	v, times := b.now[q.Volume], b.times()
	for i := range req.Blocks(q) {
		block := q.Block + i
		switch {
		case block >= v.blocks:
			return i, api.ErrBlock
		case q.Kind != req.Write:
		case len(times) >= b.quota:
			return i, api.ErrQuota
		default:
			times[len(b.texts)+i] = 1
			if was, written := v.writes[block]; written {
				forget(times, was)
			}
		}
	}
	return req.Blocks(q), api.OK
}

// forget lets a write be named once less.
func forget(times map[int]int, write int) {
	times[write]--
	if times[write] == 0 {
		delete(times, write)
	}
}

// advance does so many of a request's blocks, from the first one on, that can be done.
func (b *Book) advance(q req.Request, blocks int) {
	if q.Kind == req.Read || blocks == 0 {
		return
	}
	v := &b.now[q.Volume]
	v.writes = copied(v.writes)
	for i := range blocks {
		if q.Kind == req.Discard {
			delete(v.writes, q.Block+i)
			continue
		}
		v.writes[q.Block+i] = len(b.texts)
		b.texts = append(b.texts, slices.Clone(q.Data[i*api.Sector:(i+1)*api.Sector]))
	}
}
