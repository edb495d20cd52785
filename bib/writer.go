package bib

import (
	"slices"

	"fairlead/api"
	"fairlead/cbor"
	"fairlead/eid"
)

const (
	mostTargets = 15 // a bundle's blocks, but for the integrity block itself
	mostScope   = 7
	tagSize     = 32
)

// The numbers that stand in contents (RFC 9173).
const (
	contextId    = 1 // of BIB-HMAC-SHA2
	contextFlags = 1 // there are parameters
	digestId     = 1 // of the parameter that names the digest
	sha256Digest = 5
	scopeId      = 3 // of the parameter that tells the scope
	tagId        = 1 // of the result that is a tag
)

// check tells why something is no integrity block's contents.
func check(x api.Bib) error {
	switch {
	case len(x.Targets) < 1 || len(x.Targets) > mostTargets:
		return none("no target, or too many")
	case !differ(x.Targets):
		return none("a target twice")
	case len(x.Tags) != len(x.Targets):
		return none("another number of tags than of targets")
	case slices.ContainsFunc(x.Tags, isNoTag):
		return none("a tag of another length")
	case x.Scope < 0 || x.Scope > mostScope:
		return none("a scope that is none")
	case !eid.Check(x.Source) || eid.None(x.Source):
		return none("a source that is none")
	}
	return nil
}

// differ tells whether numbers stand each once.
func differ(l []uint64) bool {
	for i, n := range l {
		if slices.Contains(l[:i], n) {
			return false
		}
	}
	return true
}

// isNoTag tells whether bytes can't be a tag.
func isNoTag(b []byte) bool {
	return len(b) != tagSize
}

// write answers the bytes of contents that check has passed.
func write(x api.Bib) []byte {
	var w []byte
	for _, y := range items(x) {
		// Not refused: the items are a few numbers, bytes and an endpoint.
		piece, _ := cbor.Encode(y)
		w = append(w, piece...)
	}
	return w
}

// items answers the items of contents, as they stand one behind the other.
func items(x api.Bib) []api.Item {
	source, _ := eid.Item(x.Source)
	return []api.Item{
		uints(x.Targets...),
		cbor.Uint(contextId),
		cbor.Uint(contextFlags),
		source,
		cbor.Array(uints(digestId, sha256Digest), uints(scopeId, uint64(x.Scope))),
		results(x.Tags),
	}
}

// uints answers an array of numbers.
func uints(l ...uint64) api.Item {
	var numbers []api.Item
	for _, n := range l {
		numbers = append(numbers, cbor.Uint(n))
	}
	return cbor.Array(numbers...)
}

// results answers the array of what was made of the targets: of each an array of its one result.
func results(tags [][]byte) api.Item {
	var l []api.Item
	for _, tag := range tags {
		l = append(l, cbor.Array(cbor.Array(cbor.Uint(tagId), cbor.Bytes(tag))))
	}
	return cbor.Array(l...)
}
