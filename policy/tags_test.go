package policy

import (
	"slices"
	"testing"

	"fairlead/api"
)

// P11.2: the numbers 5 and 6.

// TestNoKey: without a key nothing is asked of integrity, whatever Scope and the ring are.
func TestNoKey(t *testing.T) {
	for scope := range 8 {
		for _, b := range []api.Bundle{
			base(),
			sealed(base(), sealOf(9, scope, keyOf(0))),
			sealed(base(), sealOf(9, 0, keyOf(99))),
			sealed(base(), sealOf(9, scope, keyOf(0), 2)),
			sealed(base(), sealOf(9, scope, keyOf(0), 1, 77)),
			put(base(), api.Block{Type: 11, Number: 9, Data: []byte("none")}),
		} {
			for _, n := range []int{0, 1, 16} {
				judges(t, asking(-1, scope), ringOf(n), b, 0)
			}
		}
	}
}

// TestUnsigned: no block covers the payload, or one covers others alone, or can't be read, or is of another type.
func TestUnsigned(t *testing.T) {
	good := sealed(base(), sealOf(9, 7, keyOf(0)))
	at := len(good.Blocks) - 2
	l := []api.Bundle{
		base(),
		sealed(base(), sealOf(9, 7, keyOf(0), 0)),
		sealed(base(), sealOf(9, 7, keyOf(0), 2)),
		sealed(base(), sealOf(9, 7, keyOf(0), 0, 2, 4, 300)),
		sealed(base(), sealOf(9, 7, keyOf(0), 11, 257, 1<<32+1)),
		sealedAll(base(), sealOf(9, 7, keyOf(0), 2), sealOf(10, 7, keyOf(0), 4), sealOf(11, 7, keyOf(0), 0)),
		with(good, func(b *api.Bundle) { b.Blocks[at].Data = nil }),
		with(good, func(b *api.Bundle) { b.Blocks[at].Data = append(b.Blocks[at].Data, 0) }),
		with(good, func(b *api.Bundle) { b.Blocks[at].Data = b.Blocks[at].Data[:len(b.Blocks[at].Data)-1] }),
		with(good, func(b *api.Bundle) { b.Blocks[at].Data = wire([]uint64{1}, 8, [][]byte{row(32, 1)}) }),
		with(good, func(b *api.Bundle) { b.Blocks[at].Data = wire([]uint64{1, 1}, 7, [][]byte{row(32, 1), row(32, 1)}) }),
		with(good, func(b *api.Bundle) { b.Blocks[at].Data = wire([]uint64{1}, 7, [][]byte{row(31, 1)}) }),
		with(good, func(b *api.Bundle) { b.Blocks[at].Data = wire([]uint64{1}, 7, nil) }),
		with(good, func(b *api.Bundle) { b.Blocks[at].Type = 12 }),
		with(good, func(b *api.Bundle) { b.Blocks[at].Type = 192 }),
		with(base(), func(b *api.Bundle) { b.Blocks[3].Data = good.Blocks[at].Data }),
	}
	for _, b := range l {
		for scope := range 8 {
			judges(t, asking(0, scope), ringOf(1), b, 5)
			judges(t, asking(15, scope), ringOf(16), b, 5)
			judges(t, asking(-1, scope), ringOf(1), b, 0)
		}
	}
}

// TestScopes: the block has each bit that the policy asks for, and it may have more.
func TestScopes(t *testing.T) {
	for has := range 8 {
		b := sealed(base(), sealOf(9, has, keyOf(0)))
		for asked := range 8 {
			want := 0
			for _, bit := range []int{1, 2, 4} {
				if asked&bit > has&bit {
					want = 6
				}
			}
			judges(t, asking(0, asked), ringOf(1), b, want)
		}
	}
}

// TestScopesOfSeveral: each bit must be in one and the same block's scope, and that block is one that covers the payload.
func TestScopesOfSeveral(t *testing.T) {
	b := sealedAll(base(), sealOf(9, 1, keyOf(0)), sealOf(10, 2, keyOf(0)), sealOf(11, 4, keyOf(0)), sealOf(12, 7, keyOf(0), 2, 0))
	for asked, want := range []int{0, 0, 0, 6, 0, 6, 6, 6} {
		judges(t, asking(0, asked), ringOf(1), b, want)
	}
	// What another key made is nothing to this one's scope.
	b = sealedAll(base(), sealOf(9, 7, keyOf(1)), sealOf(10, 3, keyOf(0)))
	for asked, want := range []int{0, 0, 0, 0, 6, 6, 6, 6} {
		judges(t, asking(0, asked), ringOf(2), b, want)
		judges(t, asking(1, asked), ringOf(2), b, 0)
	}
}

// TestKeysOfTheRing: the key at the policy's place counts, not one at another.
func TestKeysOfTheRing(t *testing.T) {
	ring := ringOf(16)
	for i := range ring {
		b := sealed(base(), sealOf(9, 7, keyOf(i)))
		for j := range ring {
			want := 6
			if i == j {
				want = 0
			}
			judges(t, asking(j, 7), ring, b, want)
		}
		// The same key at another place, or at several.
		moved := slices.Clone(ring)
		moved[0], moved[i] = moved[i], moved[0]
		judges(t, asking(0, 7), moved, b, 0)
		if i > 0 {
			judges(t, asking(i, 7), moved, b, 6)
		}
		judges(t, asking(15-i, 7), slices.Repeat([][]byte{keyOf(i)}, 16), b, 0)
	}
}

// TestSizesOfKeys: the least and the greatest ones, and one with noughts behind (layer 8 takes these for one).
func TestSizesOfKeys(t *testing.T) {
	for _, size := range []int{1, 2, 31, 32, 33, 63, 64} {
		key := row(size, size+1)
		b := sealed(base(), sealOf(9, 5, key))
		judges(t, asking(1, 5), [][]byte{keyOf(0), key}, b, 0)
		judges(t, asking(0, 5), [][]byte{keyOf(0), key}, b, 6)
		judges(t, asking(0, 5), [][]byte{append(make([]byte, 64-size), key...)}, b, map[bool]int{true: 0, false: 6}[size == 64])
		judges(t, asking(0, 5), [][]byte{append(slices.Clone(key), make([]byte, 64-size)...)}, b, 0)
		for bit := range 8 * size {
			other := slices.Clone(key)
			other[bit/8] ^= 1 << (bit % 8)
			if got := Judge(asking(0, 5), [][]byte{other}, b); got != 6 {
				t.Errorf("a key of %d bytes, bit %d turned: %d", size, bit, got)
			}
		}
	}
	// A key of 65 bytes is none, though a tag can be made with it.
	judges(t, asking(0, 5), [][]byte{row(65, 1)}, sealed(base(), sealOf(9, 5, row(65, 1))), 1)
	judges(t, asking(0, 5), [][]byte{nil}, sealed(base(), sealOf(9, 5, nil)), 1)
}

// form is a way in which an integrity block may stand, and whether it covers the payload, and is accepted.
type form struct {
	covers bool
	right  bool
	put    func(b api.Bundle, number uint64) api.Bundle
}

// forms answers them, for a policy of the key 0 and the scope 5.
func forms() []form {
	of := func(scope int, key int, targets ...uint64) func(b api.Bundle, number uint64) api.Bundle {
		return func(b api.Bundle, number uint64) api.Bundle {
			return sealed(b, sealOf(number, scope, keyOf(key), targets...))
		}
	}
	return []form{
		{true, true, of(5, 0)},
		{true, true, of(7, 0, 0, 1, 300)},
		{true, false, of(5, 1)},        // by another key
		{true, false, of(4, 0)},        // without a bit
		{true, false, of(7, 0, 1, 77)}, // with a target that is none
		{false, false, of(7, 0, 2)},    // of another block
		{false, false, func(b api.Bundle, number uint64) api.Bundle {
			return put(b, api.Block{Type: 11, Number: number, Data: []byte("none")})
		}},
	}
}

// TestSeveral: of several blocks the first, the last, one between, or none is accepted; all rows of up to three.
func TestSeveral(t *testing.T) {
	l := forms()
	for one := range len(l) {
		for two := range len(l) {
			for three := range len(l) + 1 {
				b := l[two].put(l[one].put(base(), 20), 10)
				row := []form{l[one], l[two]}
				if three < len(l) {
					b = l[three].put(b, 15)
					row = append(row, l[three])
				}
				want := 5
				if slices.ContainsFunc(row, func(x form) bool { return x.covers }) {
					want = 6
				}
				if slices.ContainsFunc(row, func(x form) bool { return x.right }) {
					want = 0
				}
				judges(t, asking(0, 5), ringOf(2), b, want)
			}
		}
	}
}

// TestMostBlocks: as many integrity blocks as a bundle takes, of which one is accepted, at each place, or none.
func TestMostBlocks(t *testing.T) {
	bare := with(base(), func(b *api.Bundle) { b.Blocks = b.Blocks[3:] })
	for right := range 16 {
		b := bare
		for i := range 15 {
			key := keyOf(1)
			if i == right {
				key = keyOf(0)
			}
			b = sealed(b, sealOf(uint64(40-i), 7, key))
		}
		judges(t, asking(0, 7), ringOf(2), b, map[bool]int{true: 0, false: 6}[right < 15])
		judges(t, asking(1, 7), ringOf(2), b, 0)
	}
}

// TestWherePlaced: a block counts wherever it stands, and whatever its Number is.
func TestWherePlaced(t *testing.T) {
	for _, number := range []uint64{3, 9, 11, 1 << 32, 1<<64 - 1} {
		b := sealed(base(), sealOf(number, 7, keyOf(0)))
		for range len(b.Blocks) - 1 {
			judges(t, asking(0, 7), ringOf(1), b, 0)
			last := len(b.Blocks) - 1
			b.Blocks = slices.Concat(b.Blocks[1:last], b.Blocks[:1], b.Blocks[last:])
		}
	}
}

// TestFlagsOfSeals: a block's Flags are those that its tag is made over.
func TestFlagsOfSeals(t *testing.T) {
	for _, flags := range []uint64{0, 1, 16, 1<<64 - 1} {
		for scope := range 8 {
			s := sealOf(9, scope, keyOf(0))
			s.flags = flags
			b := sealed(base(), s)
			judges(t, asking(0, 0), ringOf(1), b, 0)
			b.Blocks[3].Flags ^= 2
			judges(t, asking(0, 0), ringOf(1), b, map[bool]int{true: 6, false: 0}[scope&4 != 0])
		}
	}
}

// TestOtherTargets: each target of the block must be right, be it ahead of the payload or behind it.
func TestOtherTargets(t *testing.T) {
	for _, targets := range [][]uint64{{1, 2}, {2, 1}, {300, 2, 1}, {1, 2, 300}} {
		b := sealed(base(), sealOf(9, 7, keyOf(0), targets...))
		judges(t, asking(0, 7), ringOf(1), b, 0)
		judges(t, asking(0, 7), ringOf(1), with(b, func(b *api.Bundle) { b.Blocks[0].Data[1]++ }), 6)
		gone := with(b, func(b *api.Bundle) { b.Blocks = b.Blocks[1:] })
		judges(t, asking(0, 7), ringOf(1), gone, 6)
		judges(t, asking(0, 7), ringOf(1), sealed(gone, sealOf(8, 7, keyOf(0))), 0)
	}
}
