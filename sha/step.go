package sha

import (
	"math/bits"

	"fairlead/num"
)

const (
	rounds = 64
	given  = 16 // words that a block's bytes give; the others are made of these
)

// next answers the state behind a block of 64 bytes.
func next(state [stateSize]uint32, block []byte) [stateSize]uint32 {
	w, k := words(block), roundWords()
	a, b, c, d := state[0], state[1], state[2], state[3]
	e, f, g, h := state[4], state[5], state[6], state[7]
	for i := range rounds {
		t1 := h + turned(e, 6, 11, 25) + (e&f ^ ^e&g) + k[i] + w[i]
		t2 := turned(a, 2, 13, 22) + (a&b ^ a&c ^ b&c)
		a, b, c, d, e, f, g, h = t1+t2, a, b, c, d+t1, e, f, g
	}
	behind := [stateSize]uint32{a, b, c, d, e, f, g, h}
	for i := range stateSize {
		state[i] += behind[i]
	}
	return state
}

// words answers the words of a block, one for each round.
func words(block []byte) [rounds]uint32 {
	var w [rounds]uint32
	for i := range rounds {
		if i < given {
			w[i] = uint32(num.Get(block[wordSize*i : wordSize*(i+1)]))
			continue
		}
		w[i] = w[i-16] + shifted(w[i-15], 7, 18, 3) + w[i-7] + shifted(w[i-2], 17, 19, 10)
	}
	return w
}

// turned puts x together with itself, turned to the right by each of three numbers.
func turned(x uint32, first, second, third int) uint32 {
	return right(x, first) ^ right(x, second) ^ right(x, third)
}

// shifted is like turned, but what the third number moves out of x does not come back.
func shifted(x uint32, first, second, third int) uint32 {
	return right(x, first) ^ right(x, second) ^ x>>third
}

// right turns x to the right.
func right(x uint32, n int) uint32 {
	return bits.RotateLeft32(x, -n)
}
