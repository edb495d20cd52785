package bundle

import (
	"fairlead/api"
	"fairlead/block"
	"fairlead/cbor"
	"fairlead/crc"
	"fairlead/eid"
)

const (
	version   = 7
	beginByte = 0x9f // begins a bundle
	endByte   = 0xff // ends it
)

// write answers a bundle's bytes, or why it has none.
func write(b api.Bundle) ([]byte, error) {
	if err := check(b); err != nil {
		return nil, err
	}
	w := append([]byte{beginByte}, writePrimary(b)...)
	for _, x := range b.Blocks {
		// Not refused: the bundle's check has asked each block's.
		y, _ := block.Encode(x)
		w = append(w, y...)
	}
	w = append(w, endByte)
	if len(w) > api.MaxBundle {
		return nil, none("too many bytes")
	}
	return w, nil
}

// writePrimary answers the bytes of a primary block whose endpoints and sum's kind may be.
func writePrimary(b api.Bundle) []byte {
	// Not refused: the item of a primary block is a few numbers, bytes and endpoints.
	w, _ := cbor.Encode(item(b))
	sum := crc.Bytes(b.Crc, w)
	// The sum's bytes are the last ones, and were noughts till it was reckoned.
	copy(w[len(w)-len(sum):], sum)
	return w
}

// item answers a primary block's item, the sum's bytes noughts.
func item(b api.Bundle) api.Item {
	l := []api.Item{
		cbor.Uint(version),
		cbor.Uint(b.Flags),
		cbor.Uint(uint64(b.Crc)),
		endpoint(b.Dest),
		endpoint(b.Source),
		endpoint(b.Report),
		cbor.Array(cbor.Uint(b.Time), cbor.Uint(b.Seq)),
		cbor.Uint(b.Life),
	}
	if b.Crc != 0 {
		l = append(l, cbor.Bytes(make([]byte, sumSize(b.Crc))))
	}
	return cbor.Array(l...)
}

// endpoint answers the item of an endpoint that may be.
func endpoint(e api.Eid) api.Item {
	x, _ := eid.Item(e)
	return x
}

// sumSize answers how many bytes a sum of that kind has.
func sumSize(kind int) int {
	return len(crc.Bytes(kind, nil))
}
