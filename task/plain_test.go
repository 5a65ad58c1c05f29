package task_test

import (
	"maps"

	"casemate/api"
	"casemate/reply"
	"casemate/req"
)

// volume is how many blocks a volume has, and which write each block was that was written.
type volume struct {
	blocks  int
	written map[int]int
}

// state is a tenant's volumes.
type state map[int]volume

func (s state) clone() state {
	c := state{}
	for n, v := range s {
		c[n] = volume{v.blocks, maps.Clone(v.written)}
	}
	return c
}

// has is the error of a call that asks for a block.
func (s state) has(n, block int) api.Errno {
	v, there := s[n]
	switch {
	case !there:
		return api.ErrVolume
	case block < 0 || block >= v.blocks:
		return api.ErrBlock
	}
	return api.OK
}

// text is the block of a write, unlike for each number; of 0, which stands for no write, noughts.
func text(n int) []byte {
	b := make([]byte, api.Sector)
	if n == 0 {
		return b
	}
	for i := range b {
		b[i] = byte(n*7 + i*n/3)
	}
	b[0], b[511] = byte(n), byte(n>>8)
	return b
}

// course is what a task of blocks should do and answer.
type course struct {
	r     req.Request
	first int // which write the first block of a Write is; the others are those behind it
	at    int // how many blocks were done
	ended bool
	reply reply.Reply
}

// most is how many steps a course has, if nothing is refused.
func (o *course) most() int {
	switch o.r.Kind {
	case req.Read, req.Discard:
		return o.r.Count
	case req.Write:
		return len(o.r.Data) / 512
	}
	return 1
}

// refused is told that a block was refused.
func (o *course) refused(e api.Errno) {
	o.ended, o.reply = true, reply.Reply{E: e, Number: o.at}
}

// step does the next block, to plain volumes.
func (o *course) step(s state) {
	block := o.r.Block + o.at
	if e := s.has(o.r.Volume, block); e != api.OK {
		o.refused(e)
		return
	}
	written := s[o.r.Volume].written
	_, was := written[block]
	switch o.r.Kind {
	case req.Read:
		o.reply.Data = append(o.reply.Data, text(written[block])...)
		o.reply.Number++
	case req.Write:
		written[block] = o.first + o.at
		o.reply.Number++
	case req.Discard:
		delete(written, block)
		if was {
			o.reply.Number++
		}
	}
	o.at++
	o.ended = o.at == o.most()
}

// steps does so many blocks of a course, or as many as there are.
func (o *course) steps(s state, count int) {
	for o.at < count && !o.ended {
		o.step(s)
	}
}

// end does a course to its end.
func (o *course) end(s state) reply.Reply {
	o.steps(s, o.most())
	return o.reply
}
