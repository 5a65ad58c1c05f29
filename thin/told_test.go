package thin_test

import (
	"reflect"
	"unsafe"

	"casemate/keys"
)

// setTold lets a counter have told the stamps up to that count. Nobody can ask so often, so the count is laid into the counter's memory.
func setTold(c *keys.Counter, count uint64) {
	field := reflect.ValueOf(c).Elem().FieldByName("told")
	*(*uint64)(unsafe.Pointer(field.UnsafeAddr())) = count
}
