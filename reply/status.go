package reply

import (
	"casemate/api"
	"casemate/octet"
)

// Status is how a tenant stands. Of the volume number n it has the Blocks and the Used at n - 1.
type Status struct {
	Charge, Reserve, Quota int
	Blocks, Used           [8]int
}

// gathered is the bytes of numbers, two of each. A number that has none of so many is cut.
func gathered(numbers ...int) []byte {
	var b []byte
	for _, n := range numbers {
		b = append(b, octet.Put(uint16(n))...)
	}
	return b
}

// WriteStatus is a status' bytes. It may be, if it comes back from them as it was: a number that was cut does not.
func WriteStatus(s Status) ([]byte, api.Errno) {
	b := gathered(s.Charge, s.Reserve, s.Quota)
	for i, blocks := range s.Blocks {
		b = append(b, gathered(blocks, s.Used[i])...)
	}
	if back, e := ReadStatus(b); e != api.OK || back != s {
		return nil, api.ErrForm
	}
	return b, api.OK
}

// ReadStatus is bytes' status.
func ReadStatus(b []byte) (Status, api.Errno) {
	from := octet.Read(b)
	s := Status{Charge: int(from.U16()), Reserve: int(from.U16()), Quota: int(from.U16())}
	for i := range s.Blocks {
		s.Blocks[i], s.Used[i] = int(from.U16()), int(from.U16())
	}
	if from.End() != api.OK {
		return Status{}, api.ErrForm
	}
	return s, api.OK
}
