package bundle

import (
	"slices"

	"fairlead/api"
	"fairlead/block"
	"fairlead/eid"
)

const (
	mostCrc = 2
	// What asks for reports: there is nobody to send them to where the source is none.
	reports = api.FlagReceived | api.FlagForward | api.FlagDeliver | api.FlagDelete
)

// check tells why a bundle may not be.
func check(b api.Bundle) error {
	if b.Flags&api.FlagFragment != 0 {
		return fault{"flags", cause(api.ErrFrag)}
	}
	if err := checkPrimary(b); err != nil {
		return err
	}
	return checkBlocks(b.Blocks)
}

// checkPrimary tells why a bundle's primary block may not be, but for fragments.
func checkPrimary(b api.Bundle) error {
	switch {
	case b.Crc < 0 || b.Crc > mostCrc:
		return none("a sum's kind that is none")
	case !eid.Check(b.Dest) || !eid.Check(b.Source) || !eid.Check(b.Report):
		return none("an endpoint that may not be")
	case eid.None(b.Dest):
		return none("a destination that is none")
	case eid.None(b.Source) && b.Flags&(api.FlagWhole|reports) != api.FlagWhole:
		return none("flags that ask for a source")
	}
	return nil
}

// checkBlocks tells why a bundle's blocks may not be.
func checkBlocks(l []api.Block) error {
	if len(l) < 1 || len(l) > api.MaxBlocks {
		return none("too few blocks, or too many")
	}
	last := len(l) - 1
	for i, x := range l {
		ahead := l[:i]
		switch {
		case !block.Check(x):
			return none("a block that may not be")
		case (x.Type == api.BlkPayload) != (i == last):
			return none("a payload that is not last, or none")
		case placeOf(ahead, x.Number) >= 0:
			return none("two blocks of a number")
		case isSingle(x.Type) && hasType(ahead, x.Type):
			return none("two blocks of a type that stands once")
		}
	}
	return nil
}

// placeOf answers the place of the first block of a number, -1 without.
func placeOf(l []api.Block, number uint64) int {
	return slices.IndexFunc(l, func(x api.Block) bool { return x.Number == number })
}

// isSingle tells whether a bundle has at most one block of a type, besides its payload.
func isSingle(kind uint64) bool {
	return kind == api.BlkHops || kind == api.BlkAge || kind == api.BlkPrevious
}

// hasType tells whether there is a block of a type.
func hasType(l []api.Block, kind uint64) bool {
	return slices.ContainsFunc(l, func(x api.Block) bool { return x.Type == kind })
}
