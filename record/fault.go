package record

import (
	"errors"

	"fairlead/api"
)

// Why a record is none.
var (
	errShort  = errors.New("bytes that end too soon")
	errRecord = errors.New("no record")
)

// fault wraps why a record is none: what of it is wrong.
type fault struct {
	of  string
	why error
}

// Error tells what is wrong, and why.
func (f fault) Error() string {
	return "record: " + f.of + ": " + f.why.Error()
}

// Unwrap answers why.
func (f fault) Unwrap() error {
	return f.why
}

// numberOf answers the number of what is wrong.
func numberOf(err error) api.Errno {
	switch {
	case errors.Is(err, errShort):
		return api.ErrShort
	case errors.Is(err, errRecord):
		return api.ErrRecord
	}
	return api.OK
}
