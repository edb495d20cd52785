package ippt

import (
	"fairlead/api"
	"fairlead/cbor"
)

// The parts of a plaintext, each by the bit of a scope that asks for it.
const (
	always      = 0 // asked for by every scope
	primaryPart = 1
	targetPart  = 2
	bibPart     = 4
	wholeScope  = primaryPart | targetPart | bibPart
)

// putter answers a function that puts a piece behind a plaintext, if the scope asks for its part.
func putter(plain *[]byte, scope int) func(part int, piece []byte) {
	return func(part int, piece []byte) {
		if scope&part == part {
			*plain = append(*plain, piece...)
		}
	}
}

// putUints puts the items of numbers.
func putUints(put func(part int, piece []byte), part int, l ...uint64) {
	for _, n := range l {
		put(part, encoded(cbor.Uint(n)))
	}
}

// encoded answers an item's bytes.
func encoded(x api.Item) []byte {
	// Not refused: here items are numbers, and bytes.
	w, _ := cbor.Encode(x)
	return w
}
