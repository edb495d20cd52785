package block

import (
	"fairlead/api"
	"fairlead/cbor"
	"fairlead/crc"
)

const (
	mostType      = 255
	mostCrc       = 2
	payloadNumber = 1
)

// check tells why a block may not be.
func check(b api.Block) error {
	switch {
	case b.Type < 1 || b.Type > mostType:
		return fault{api.ErrBlock, "no such type"}
	case b.Number == 0:
		return fault{api.ErrBlock, "the primary block's number"}
	case b.Type == api.BlkPayload && b.Number != payloadNumber:
		return fault{api.ErrBlock, "a payload of another number"}
	case b.Crc < 0 || b.Crc > mostCrc:
		return fault{api.ErrBlock, "no such sum"}
	case len(b.Data) > api.MaxBundle:
		return fault{api.ErrBlock, "more data than a bundle's"}
	}
	return nil
}

// write answers the bytes of a block that check has passed.
func write(b api.Block) []byte {
	// Not refused: the item of a block that may be is a few numbers and bytes.
	w, _ := cbor.Encode(item(b))
	sum := crc.Bytes(b.Crc, w)
	// The sum's bytes are the last ones, and were noughts till it was reckoned.
	copy(w[len(w)-len(sum):], sum)
	return w
}

// item answers a block's item, the sum's bytes noughts.
func item(b api.Block) api.Item {
	l := []api.Item{
		cbor.Uint(b.Type),
		cbor.Uint(b.Number),
		cbor.Uint(b.Flags),
		cbor.Uint(uint64(b.Crc)),
		cbor.Bytes(b.Data),
	}
	if b.Crc != 0 {
		l = append(l, cbor.Bytes(make([]byte, sumSize(b.Crc))))
	}
	return cbor.Array(l...)
}

// sumSize answers how many bytes a sum of that kind has.
func sumSize(kind int) int {
	return len(crc.Bytes(kind, nil))
}
