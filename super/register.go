package super

import (
	"casemate/api"
	"casemate/octet"
)

// lastHead is the greatest Which, since there are two heads.
const lastHead = 1

// Register is what stands in the register.
type Register struct {
	Sum        api.Sum
	Gen, Epoch uint64
	Which      uint8
}

// WriteReg is a register's bytes.
func WriteReg(r Register) ([64]byte, api.Errno) {
	if r.Which > lastHead {
		return [64]byte{}, api.ErrForm
	}
	var b [64]byte
	join(b[:], r.Sum[:], octet.Put(r.Gen), octet.Put(r.Epoch), octet.Put(r.Which))
	return b, api.OK
}

// ReadReg is bytes' register. Blank ones are none, though the register of noughts is written so, since that is how a register stands that was never set.
func ReadReg(b [64]byte) (Register, api.Errno) {
	if b == ([64]byte{}) {
		return Register{}, api.ErrNone
	}
	from := octet.Read(b[:])
	var r Register
	copy(r.Sum[:], from.Bytes(len(r.Sum)))
	r.Gen, r.Epoch, r.Which = from.U64(), from.U64(), from.U8()
	again, e := WriteReg(r)
	if e != api.OK || again != b {
		return Register{}, api.ErrForm
	}
	return r, api.OK
}
