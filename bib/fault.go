package bib

import (
	"errors"

	"fairlead/api"
	"fairlead/num"
)

// Why a block is not accepted, where this layer tells it.
var (
	errTarget = errors.New("no integrity block")
	errTag    = errors.New("a tag that is wrong")
)

// cause is why a layer below refuses, as its number alone.
type cause api.Errno

// Error tells the number.
func (c cause) Error() string {
	return "error " + num.Dec(uint64(c))
}

// fault wraps why a block is not accepted: what of it, or of its bundle, is wrong.
type fault struct {
	of  string
	why error
}

// Error tells what is wrong, and why.
func (f fault) Error() string {
	return "bib: " + f.of + ": " + f.why.Error()
}

// Unwrap answers why.
func (f fault) Unwrap() error {
	return f.why
}

// none answers why something is no integrity block's contents.
func none(of string) error {
	return fault{of, errTarget}
}

// numberOf answers the number of what is wrong.
func numberOf(err error) api.Errno {
	var below cause
	switch {
	case errors.Is(err, errTarget):
		return api.ErrTarget
	case errors.Is(err, errTag):
		return api.ErrTag
	case errors.As(err, &below):
		return api.Errno(below)
	}
	return api.OK
}
