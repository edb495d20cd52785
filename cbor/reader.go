package cbor

import (
	"bytes"

	"fairlead/api"
	"fairlead/num"
)

// In a head's first byte: its lowest bits, and the greatest number of these that tells how many bytes follow.
const (
	lowBits = 31
	topCode = 27
)

// reader reads items, and goes no further than the first fault.
type reader struct {
	b     []byte
	at    int // bytes that were read
	parts int // items that were begun
	depth int // arrays that are not ended
}

// item reads an item.
func (r *reader) item() (api.Item, error) {
	if r.at == len(r.b) {
		return api.Item{}, fault{api.ErrShort}
	}
	first := r.b[r.at]
	r.parts++
	if r.parts > api.MaxParts || beginsArray(first) && r.depth == api.MaxDepth {
		return api.Item{}, fault{api.ErrDeep}
	}
	if first == beginByte {
		r.at++
		return r.endless()
	}
	// Asked ahead of the bytes that would follow: where a first byte is no item's, it does not count whether they are there.
	read := r.behind(first)
	if read == nil {
		return api.Item{}, fault{api.ErrCbor}
	}
	n, err := r.head()
	if err != nil {
		return api.Item{}, err
	}
	return read(n)
}

// beginsArray tells whether a first byte is that of an array.
func beginsArray(first byte) bool {
	if api.ItemKind(first>>5) != api.ItemArray {
		return false
	}
	return first&lowBits <= topCode || first == beginByte
}

// behind answers what reads an item of that first byte from behind its head on, handed the head's number; nil, if no head begins so.
func (r *reader) behind(first byte) func(n uint64) (api.Item, error) {
	if first&lowBits > topCode {
		return nil
	}
	switch api.ItemKind(first >> 5) {
	case api.ItemUint:
		return r.uint
	case api.ItemBytes:
		return r.bytes
	case api.ItemText:
		return r.text
	case api.ItemArray:
		return r.array
	}
	return nil
}

// head reads the number of a head whose first byte was asked.
func (r *reader) head() (uint64, error) {
	first := r.b[r.at]
	r.at++
	code := first & lowBits
	if code < inHead {
		return uint64(code), nil
	}
	b, err := r.take(1 << (code - inHead))
	if err != nil {
		return 0, err
	}
	n := num.Get(b)
	if len(Head(int(first>>5), n)) != 1+len(b) {
		return 0, fault{api.ErrCbor}
	}
	return n, nil
}

// take reads n bytes. They are cut at their end, so that nobody appends to what was handed in.
func (r *reader) take(n uint64) ([]byte, error) {
	if n > r.left() {
		return nil, fault{api.ErrShort}
	}
	end := r.at + int(n)
	b := r.b[r.at:end:end]
	r.at = end
	return b, nil
}

// left answers how many bytes are left.
func (r *reader) left() uint64 {
	return uint64(len(r.b) - r.at)
}

// uint answers a number, which is all in its head.
func (r *reader) uint(n uint64) (api.Item, error) {
	return Uint(n), nil
}

// bytes reads n bytes.
func (r *reader) bytes(n uint64) (api.Item, error) {
	b, err := r.take(n)
	if err != nil {
		return api.Item{}, err
	}
	return Bytes(b), nil
}

// text reads a text of n bytes. A byte that may not be stands ahead of where the bytes end, so it is told first.
func (r *reader) text(n uint64) (api.Item, error) {
	if !plain(r.b[r.at:][:min(n, r.left())]) {
		return api.Item{}, fault{api.ErrCbor}
	}
	b, err := r.take(n)
	if err != nil {
		return api.Item{}, err
	}
	return api.Item{Kind: api.ItemText, Data: bytes.Clone(b)}, nil
}

// array reads an array of n items. Its list grows as they come: a length that no bytes can hold takes no room.
func (r *reader) array(n uint64) (api.Item, error) {
	x := api.Item{Kind: api.ItemArray}
	r.depth++
	for range n {
		y, err := r.item()
		if err != nil {
			return api.Item{}, err
		}
		x.List = append(x.List, y)
	}
	r.depth--
	return x, nil
}

// endless reads an array from behind its first byte on, up to and with the byte that ends it.
func (r *reader) endless() (api.Item, error) {
	x := api.Item{Kind: api.ItemEndless}
	r.depth++
	for r.left() == 0 || r.b[r.at] != endByte {
		y, err := r.item()
		if err != nil {
			return api.Item{}, err
		}
		x.List = append(x.List, y)
	}
	r.depth--
	r.at++
	return x, nil
}
