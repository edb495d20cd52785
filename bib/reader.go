package bib

import (
	"bytes"

	"fairlead/api"
	"fairlead/cbor"
	"fairlead/eid"
)

const itemCount = 6 // of contents

// The places of the items of contents that differ from one to the other.
const (
	targetsPlace    = 0
	sourcePlace     = 3
	parametersPlace = 4
	resultsPlace    = 5
)

// contents answers what an integrity block holds, or why there is nothing.
func contents(y api.Block) (api.Bib, error) {
	if y.Type != api.BlkBib {
		return api.Bib{}, none("a block of another type")
	}
	return read(y.Data)
}

// read answers the contents whose bytes these are, or why there are none. It writes what it took for them again: whatever the items have beside, or otherwise, shows there, as contents have no bytes but their own.
func read(b []byte) (api.Bib, error) {
	l, err := split(b)
	if err != nil {
		return api.Bib{}, err
	}
	x := taken(l)
	if err := check(x); err != nil {
		return api.Bib{}, err
	}
	if !bytes.Equal(write(x), b) {
		return api.Bib{}, none("another form than contents have")
	}
	return x, nil
}

// split answers the first items of b, as many as contents have, or why there are not so many.
func split(b []byte) ([]api.Item, error) {
	var l []api.Item
	for range itemCount {
		x, n, errno := cbor.Decode(b)
		if errno != api.OK {
			return nil, none("an item too few")
		}
		l = append(l, x)
		b = b[n:]
	}
	return l, nil
}

// taken answers the one Bib whose items these could be, if they are any's.
func taken(l []api.Item) api.Bib {
	x := api.Bib{Scope: int(within(l[parametersPlace], 1, 1).N)}
	// Where no endpoint is, check finds the one of nothing, which may not be.
	x.Source, _ = eid.From(l[sourcePlace])
	for _, y := range l[targetsPlace].List {
		x.Targets = append(x.Targets, y.N)
	}
	for _, y := range l[resultsPlace].List {
		x.Tags = append(x.Tags, within(y, 0, 1).Data)
	}
	return x
}

// within answers the item that stands in another one, in its lists at these places; where there is none the item of nothing.
func within(x api.Item, places ...int) api.Item {
	for _, place := range places {
		if place >= len(x.List) {
			return api.Item{}
		}
		x = x.List[place]
	}
	return x
}
