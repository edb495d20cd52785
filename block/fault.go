package block

import (
	"errors"

	"fairlead/api"
	"fairlead/num"
)

// fault is why there is no block.
type fault struct {
	number api.Errno
	why    string
}

// Error tells why there is no block, and the error's number.
func (f fault) Error() string {
	return "block: " + f.why + ": error " + num.Dec(uint64(f.number))
}

// numberOf answers the number of what is wrong.
func numberOf(err error) api.Errno {
	var f fault
	if errors.As(err, &f) {
		return f.number
	}
	return api.OK
}
