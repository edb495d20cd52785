package bundle

import (
	"errors"

	"fairlead/api"
	"fairlead/num"
)

// cause is why there is no bundle, as its number alone: this layer's, or that of one below.
type cause api.Errno

// Error tells the number.
func (c cause) Error() string {
	return "error " + num.Dec(uint64(c))
}

// fault wraps why there is no bundle: what of it is wrong.
type fault struct {
	of  string
	why error
}

// Error tells what is wrong, and why.
func (f fault) Error() string {
	return "bundle: " + f.of + ": " + f.why.Error()
}

// Unwrap answers why.
func (f fault) Unwrap() error {
	return f.why
}

// none answers why there is no bundle, where no other layer has a number of its own for it.
func none(of string) error {
	return fault{of, cause(api.ErrBundle)}
}

// numberOf answers the number of what is wrong.
func numberOf(err error) api.Errno {
	if err == nil {
		return api.OK
	}
	for _, number := range []api.Errno{
		api.ErrShort, api.ErrCbor, api.ErrDeep,
		api.ErrBlock, api.ErrCrc,
		api.ErrVersion, api.ErrFrag,
	} {
		if errors.Is(err, cause(number)) {
			return number
		}
	}
	return api.ErrBundle
}
