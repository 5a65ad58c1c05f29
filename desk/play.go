package desk

import (
	"bytes"

	"casemate/api"
	"casemate/reply"
	"casemate/scrub"
)

// play does what a line says, and tells what it tells.
func (d *Desk) play(o order) string {
	m := d.manager
	switch o.what {
	case "submit":
		ticket, e := m.Submit(o.bytes)
		return told(e, decimal(ticket))
	case "pick":
		return picked(m.Pick(o.numbers[0]))
	case "next":
		return picked(m.Next())
	case "crash":
		return told(m.Crash(o.bytes))
	case "fail":
		return told(d.disk.Fail(o.numbers[0]))
	case "tamper":
		turned := bytes.Repeat([]byte{byte(o.numbers[1])}, api.Sector)
		return told(d.disk.Tamper(uint32(o.numbers[0]), turned))
	case "sessions":
		return told(api.OK, decimals(m.Sessions()...)...)
	case "waits":
		return told(api.OK, decimal(m.Waits(o.numbers[0])))
	case "look":
		r, e := scrub.Look(m.Core(), o.numbers[0])
		return told(e, decimals(r.Volumes, r.Blocks, r.Bad)...)
	case "books":
		right, e := scrub.Books(m.Core())
		return told(e, decimal(oneIf(right)))
	}
	return d.state()
}

// state tells how a desk's disk stands.
func (d *Desk) state() string {
	c := d.manager.Core()
	return told(api.OK, decimal(c.Gen()), decimal(c.Epoch()), decimal(d.disk.Calls()))
}

// picked tells what a pick told.
func picked(ticket uint64, r reply.Reply, ended bool, e api.Errno) string {
	switch {
	case e != api.OK:
		return told(e)
	case !ended:
		return told(api.OK, decimal(ticket), "wait")
	}
	b, e := reply.Encode(r)
	return told(e, decimal(ticket), hexed(b))
}

// oneIf is 1, if something is so; else 0.
func oneIf(is bool) int {
	if is {
		return 1
	}
	return 0
}
