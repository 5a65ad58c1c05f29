package entry

import (
	"casemate/api"
	"casemate/octet"
)

// lastCopy is the greatest Copy, since a tenant has two places for its slot.
const lastCopy = 1

// value is fields, one behind the other, and bytes 0 behind.
func value(fields ...[]byte) [44]byte {
	var v [44]byte
	at := 0
	for _, field := range fields {
		at += copy(v[at:], field)
	}
	return v
}

// digit is 1 of what is true.
func digit(x bool) uint8 {
	if x {
		return 1
	}
	return 0
}

// reference is the next reference.
func reference(r *octet.Reader) api.Ref {
	return api.Ref{Sector: r.U32(), Sum: sum(r)}
}

// sum is the next sum.
func sum(r *octet.Reader) api.Sum {
	var s api.Sum
	copy(s[:], r.Bytes(len(s)))
	return s
}

// checked is what was read of a value, if that is just how it is written: so no two values are read as the same.
func checked[T any](x T, v [44]byte, write func(T) ([44]byte, api.Errno)) (T, api.Errno) {
	again, e := write(x)
	if e != api.OK || again != v {
		var none T
		return none, api.ErrForm
	}
	return x, api.OK
}

// WriteCount is a count's value.
func WriteCount(n uint64) [44]byte {
	return value(octet.Put(n))
}

// ReadCount is a value's count.
func ReadCount(v [44]byte) (uint64, api.Errno) {
	n := octet.Read(v[:]).U64()
	return checked(n, v, func(n uint64) ([44]byte, api.Errno) { return WriteCount(n), api.OK })
}

// WriteVolume is a description's value.
func WriteVolume(x Volume) ([44]byte, api.Errno) {
	if x.Blocks < 1 || x.Blocks > api.MaxBlocks {
		return [44]byte{}, api.ErrForm
	}
	return value(octet.Put(x.Number), octet.Put(uint32(x.Blocks))), api.OK
}

// ReadVolume is a value's description.
func ReadVolume(v [44]byte) (Volume, api.Errno) {
	r := octet.Read(v[:])
	return checked(Volume{Number: r.U64(), Blocks: int(r.U32())}, v, WriteVolume)
}

// WriteBlock is a block's value.
func WriteBlock(x Block) [44]byte {
	return value(octet.Put(x.Ref.Sector), x.Ref.Sum[:], octet.Put(x.Stamp))
}

// ReadBlock is a value's block. All values are blocks', since its fields fill a value.
func ReadBlock(v [44]byte) Block {
	r := octet.Read(v[:])
	return Block{Ref: reference(r), Stamp: r.U64()}
}

// WriteRoot is a root's value.
func WriteRoot(x Root) ([44]byte, api.Errno) {
	if !x.Has && x.Ref != (api.Ref{}) {
		return [44]byte{}, api.ErrForm
	}
	return value(octet.Put(digit(x.Has)), octet.Put(x.Ref.Sector), x.Ref.Sum[:]), api.OK
}

// ReadRoot is a value's root.
func ReadRoot(v [44]byte) (Root, api.Errno) {
	r := octet.Read(v[:])
	return checked(Root{Has: r.U8() == 1, Ref: reference(r)}, v, WriteRoot)
}

// WriteTenant is a tenant's value.
func WriteTenant(x Tenant) ([44]byte, api.Errno) {
	if !isLimit(x.Reserve) || !isLimit(x.Quota) || x.Copy < 0 || x.Copy > lastCopy {
		return [44]byte{}, api.ErrForm
	}
	return value(x.Slot[:], octet.Put(uint16(x.Reserve)), octet.Put(uint16(x.Quota)), octet.Put(uint8(x.Copy))), api.OK
}

// isLimit tells whether a tenant may have that as its reserve, or as its quota.
func isLimit(extents int) bool {
	return extents >= 0 && extents <= api.MaxExtents
}

// ReadTenant is a value's tenant.
func ReadTenant(v [44]byte) (Tenant, api.Errno) {
	r := octet.Read(v[:])
	x := Tenant{Slot: sum(r), Reserve: int(r.U16()), Quota: int(r.U16()), Copy: int(r.U8())}
	return checked(x, v, WriteTenant)
}
