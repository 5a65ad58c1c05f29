package octet

import "casemate/api"

// Reader reads bytes from their front.
type Reader struct {
	left  []byte
	short bool // a call asked for more than was left
}

// Read is a reader of a copy of b.
func Read(b []byte) *Reader {
	return &Reader{left: filled(b, len(b))}
}

// take is the next n bytes, still in the reader's own memory. Once there were too few it gives nothing any more, even where bytes are left.
func (r *Reader) take(n int) []byte {
	if r == nil || r.short {
		return nil
	}
	if n < 0 || n > len(r.left) {
		r.short = true
		return nil
	}
	b := r.left[:n]
	r.left = r.left[n:]
	return b
}

// next is the next number of that kind; 0, if take gives nothing.
func next[T Number](r *Reader) T {
	v, _ := Get[T](r.take(width[T]()), 0)
	return v
}

// U8 is the next number of 8 digits.
func (r *Reader) U8() uint8 { return next[uint8](r) }

// U16 is the next number of 16 digits.
func (r *Reader) U16() uint16 { return next[uint16](r) }

// U32 is the next number of 32 digits.
func (r *Reader) U32() uint32 { return next[uint32](r) }

// U64 is the next number of 64 digits.
func (r *Reader) U64() uint64 { return next[uint64](r) }

// Bytes is the next n bytes.
func (r *Reader) Bytes(n int) []byte {
	b := r.take(n)
	return filled(b, len(b))
}

// Rest is all that is left.
func (r *Reader) Rest() []byte {
	if r == nil {
		return nil
	}
	return r.Bytes(len(r.left))
}

// End tells whether all was read, and no more.
func (r *Reader) End() api.Errno {
	switch {
	case r == nil:
		return api.ErrNil
	case r.short:
		return api.ErrShort
	case len(r.left) > 0:
		return api.ErrLong
	}
	return api.OK
}
