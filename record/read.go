package record

import (
	"bytes"

	"fairlead/api"
	"fairlead/num"
)

// read reads the record at the beginning of b, and answers how many bytes it has, or why there is none.
func read(salt uint64, b []byte) (api.Record, int, error) {
	if len(b) < headSize {
		return api.Record{}, 0, fault{"its head", errShort}
	}
	length := int(num.Get(b[:lengthSize]))
	kind := int(b[lengthSize])
	// What may not be is told ahead of what is missing: no bytes that come could mend it.
	if err := check(kind, length); err != nil {
		return api.Record{}, 0, err
	}
	n := sizeOf(length)
	if len(b) < n {
		return api.Record{}, 0, fault{"its data", errShort}
	}
	summed := b[:n-sumSize]
	if !bytes.Equal(sum(salt, summed), b[n-sumSize:n]) {
		return api.Record{}, 0, fault{"its sum", errRecord}
	}
	return api.Record{Type: kind, Data: bytes.Clone(summed[headSize:])}, n, nil
}
