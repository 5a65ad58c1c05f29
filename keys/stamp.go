package keys

import "casemate/api"

// How many digits of a stamp are its epoch's, and its count's.
const (
	epochDigits = 24
	countDigits = 40
)

// The greatest epoch and the greatest count.
const (
	lastEpoch = 1<<epochDigits - 1
	lastCount = 1<<countDigits - 1
)

// Stamp is the stamp of an epoch and a count.
func Stamp(epoch, count uint64) (uint64, api.Errno) {
	if epoch > lastEpoch || count > lastCount {
		return 0, api.ErrFull
	}
	return epoch<<countDigits | count, api.OK
}

// Parts is a stamp's epoch and count.
func Parts(stamp uint64) (uint64, uint64) {
	return stamp >> countDigits, stamp & lastCount
}

// Counter tells stamps of one epoch, each of them once.
type Counter struct {
	made  bool // false in a counter that no call made: that one would tell the stamps of the epoch 0 again
	epoch uint64
	told  uint64 // the count of the stamp told last
}

// Count is a counter of an epoch.
func Count(epoch uint64) (*Counter, api.Errno) {
	if epoch > lastEpoch {
		return nil, api.ErrFull
	}
	return &Counter{made: true, epoch: epoch}, api.OK
}

// Next is the next stamp. The count 0 is never told.
func (c *Counter) Next() (uint64, api.Errno) {
	if c == nil || !c.made {
		return 0, api.ErrNil
	}
	stamp, e := Stamp(c.epoch, c.told+1)
	if e != api.OK {
		return 0, e
	}
	c.told++
	return stamp, api.OK
}

// Epoch is a counter's epoch.
func (c *Counter) Epoch() uint64 {
	if c == nil {
		return 0
	}
	return c.epoch
}
