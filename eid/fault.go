package eid

import (
	"errors"

	"fairlead/api"
)

// Why there is no endpoint.
var (
	errScheme = errors.New("no such scheme")
	errName   = errors.New("a name that may not be")
	errNumber = errors.New("a number that may not be")
	errForm   = errors.New("another form than the endpoint's")
)

// fault wraps why there is no endpoint: of what there is none.
type fault struct {
	of  string
	why error
}

// Error tells of what there is none, and why.
func (f fault) Error() string {
	return "eid: " + f.of + ": " + f.why.Error()
}

// Unwrap answers why.
func (f fault) Unwrap() error {
	return f.why
}

// numberOf answers the number of what is wrong: whatever it is, there is no endpoint.
func numberOf(err error) api.Errno {
	switch {
	case errors.Is(err, errScheme), errors.Is(err, errName), errors.Is(err, errNumber), errors.Is(err, errForm):
		return api.ErrEid
	}
	return api.OK
}
