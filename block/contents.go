package block

import (
	"fairlead/api"
	"fairlead/cbor"
)

const (
	hopsParts = 2   // of the item of hops: the limit and the count
	mostHops  = 255 // the greatest limit
)

// contents answers the item that is all of the Data of a block of that kind, and whether there is one.
func contents(b api.Block, kind uint64) (api.Item, bool) {
	if b.Type != kind {
		return api.Item{}, false
	}
	x, n, errno := cbor.Decode(b.Data)
	if errno != api.OK || n != len(b.Data) {
		return api.Item{}, false
	}
	return x, true
}

// uintOf answers an item's number, and whether it is one.
func uintOf(x api.Item) (uint64, bool) {
	return x.N, x.Kind == api.ItemUint
}
