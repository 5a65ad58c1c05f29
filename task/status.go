package task

import (
	"casemate/api"
	"casemate/core"
	"casemate/reply"
	"casemate/thin"
)

// status answers how a view's tenant stands.
func status(c *core.Core, v *thin.View) reply.Reply {
	id := v.Tenant().ID()
	s := reply.Status{Charge: c.Field().Charge(id)}
	s.Reserve, s.Quota, _ = c.Field().Limits(id)
	for i := range s.Blocks {
		var e api.Errno
		if s.Blocks[i], s.Used[i], e = size(v, i+1); e != api.OK {
			return reply.Fail(e)
		}
	}
	return told(s)
}

// size is how many blocks a volume has, and how many of them were written; noughts of one that is not there.
func size(v *thin.View, volume int) (blocks, used int, e api.Errno) {
	x, e := v.Tenant().Volume(volume)
	switch e {
	case api.ErrVolume:
		return 0, 0, api.OK
	case api.OK:
		used, e = v.Used(volume)
	}
	return x.Blocks, used, e
}

// told answers a status.
func told(s reply.Status) reply.Reply {
	b, e := reply.WriteStatus(s)
	return reply.Reply{E: e, Data: b}
}
