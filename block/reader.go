package block

import (
	"bytes"

	"fairlead/api"
	"fairlead/cbor"
)

const leastParts = 5 // of a block's item: it has one more, if it has a sum

// read answers the block at the beginning of b, and how many bytes it has, or why there is none. It writes what it took for one again: whatever the item has beside, or otherwise, shows there, as an item has no bytes but its own.
func read(b []byte) (api.Block, int, error) {
	x, n, errno := cbor.Decode(b)
	if errno != api.OK {
		return api.Block{}, 0, fault{errno, "no item"}
	}
	y := taken(x)
	err := check(y)
	if err == nil {
		err = compare(b[:n], write(y), sumSize(y.Crc))
	}
	if err != nil {
		return api.Block{}, 0, err
	}
	return y, n, nil
}

// taken answers the one block whose item this could be, if it is one's.
func taken(x api.Item) api.Block {
	if len(x.List) < leastParts {
		return api.Block{}
	}
	return api.Block{
		Type:   x.List[0].N,
		Number: x.List[1].N,
		Flags:  x.List[2].N,
		Crc:    int(x.List[3].N),
		Data:   x.List[4].Data,
	}
}

// compare tells why bytes are not those that their block is written with, of which the last ones, size in all, are the sum.
func compare(b, written []byte, size int) error {
	sum := len(written) - size
	if len(b) != len(written) || !bytes.Equal(b[:sum], written[:sum]) {
		return fault{api.ErrBlock, "another form than a block's"}
	}
	if !bytes.Equal(b[sum:], written[sum:]) {
		return fault{api.ErrCrc, "a sum that is not right"}
	}
	return nil
}
