package bundle

import (
	"bytes"

	"fairlead/api"
	"fairlead/block"
	"fairlead/cbor"
	"fairlead/eid"
)

const (
	leastParts = 8 // of a primary block's item: it has one more, if it has a sum
	timeParts  = 2 // of its time's: the time and the number in it
)

// read answers the bundle that is all of b, or why there is none.
func read(b []byte) (api.Bundle, error) {
	if len(b) > api.MaxBundle {
		return api.Bundle{}, none("too many bytes")
	}
	if len(b) == 0 || b[0] != beginByte {
		return api.Bundle{}, none("another byte ahead")
	}
	x, n, err := readPrimary(b[1:])
	if err != nil {
		return api.Bundle{}, err
	}
	behind := b[1+n:]
	l, n, err := readBlocks(behind)
	if err != nil {
		return api.Bundle{}, err
	}
	if n != len(behind) {
		return api.Bundle{}, none("bytes behind the end")
	}
	x.Blocks = l
	if err := check(x); err != nil {
		return api.Bundle{}, err
	}
	return x, nil
}

// readPrimary answers the bundle whose primary block is at the beginning of b, without blocks, and how many bytes that has, or why there is none. It writes what it took for one again: whatever the item has beside, or otherwise, shows there, as an item has no bytes but its own.
func readPrimary(b []byte) (api.Bundle, int, error) {
	x, n, errno := cbor.Decode(b)
	if errno != api.OK {
		return api.Bundle{}, 0, fault{"primary block", cause(errno)}
	}
	if err := checkVersion(x); err != nil {
		return api.Bundle{}, 0, err
	}
	y, err := taken(x.List)
	if err == nil {
		err = compare(b[:n], writePrimary(y), sumSize(y.Crc))
	}
	if err != nil {
		return api.Bundle{}, 0, err
	}
	return y, n, nil
}

// checkVersion tells why an item is no primary block of this version, as far as that can be told ahead of its form.
func checkVersion(x api.Item) error {
	parts := len(x.List)
	if x.Kind != api.ItemArray || parts < leastParts || parts > leastParts+1 || x.List[0].Kind != api.ItemUint {
		return none("no primary block")
	}
	if x.List[0].N != version {
		return fault{"primary block", cause(api.ErrVersion)}
	}
	return nil
}

// taken answers the one bundle, without blocks, whose primary block could have these parts, or why there is none.
func taken(l []api.Item) (api.Bundle, error) {
	kind, when := l[2].N, l[6].List
	// Asked here, as a greater number could be another one as an int.
	if kind > mostCrc {
		return api.Bundle{}, none("a sum's kind that is none")
	}
	if len(when) != timeParts {
		return api.Bundle{}, none("no time")
	}
	dest, destErrno := eid.From(l[3])
	source, sourceErrno := eid.From(l[4])
	report, reportErrno := eid.From(l[5])
	if destErrno != api.OK || sourceErrno != api.OK || reportErrno != api.OK {
		return api.Bundle{}, none("an endpoint that may not be")
	}
	return api.Bundle{
		Flags:  l[1].N,
		Crc:    int(kind),
		Dest:   dest,
		Source: source,
		Report: report,
		Time:   when[0].N,
		Seq:    when[1].N,
		Life:   l[7].N,
	}, nil
}

// compare tells why bytes are not those that their primary block is written with, of which the last ones, size in all, are the sum.
func compare(b, written []byte, size int) error {
	sum := len(written) - size
	if len(b) != len(written) || !bytes.Equal(b[:sum], written[:sum]) {
		return none("another form than a primary block's")
	}
	if !bytes.Equal(b[sum:], written[sum:]) {
		return fault{"primary block's sum", cause(api.ErrCrc)}
	}
	return nil
}

// readBlocks answers the blocks up to the byte that ends a bundle, and how many bytes these are with it, or why there are none.
func readBlocks(b []byte) ([]api.Block, int, error) {
	var l []api.Block
	at := 0
blocks:
	for {
		switch {
		case at == len(b):
			return nil, 0, fault{"blocks without an end", cause(api.ErrShort)}
		case b[at] == endByte:
			break blocks
		case len(l) == api.MaxBlocks:
			return nil, 0, none("one block too many")
		}
		x, n, errno := block.Decode(b[at:])
		if errno != api.OK {
			return nil, 0, fault{"block", cause(errno)}
		}
		l = append(l, x)
		at += n
	}
	return l, at + 1, nil
}
