package cbor

import (
	"errors"

	"fairlead/api"
	"fairlead/num"
)

// fault is what is wrong with an item, or with bytes.
type fault struct {
	number api.Errno
}

// Error tells the fault's number.
func (f fault) Error() string {
	return "cbor: error " + num.Dec(uint64(f.number))
}

// numberOf answers the number of what is wrong.
func numberOf(err error) api.Errno {
	var f fault
	if errors.As(err, &f) {
		return f.number
	}
	return api.OK
}
