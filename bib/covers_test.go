package bib

import (
	"math"
	"math/rand"
	"slices"
	"testing"

	"fairlead/api"
)

// P10.4

// covers holds Covers against what is wanted, and against the model.
func covers(t *testing.T, b api.Bundle, target uint64, want ...uint64) {
	t.Helper()
	if got := Covers(b, target); !slices.Equal(got, want) || !slices.Equal(got, modelCovers(b, target)) {
		t.Errorf("Covers(%s, %d) = %v, not %v", brief(b), target, got, want)
	}
}

// several answers a bundle of many integrity blocks.
func several() api.Bundle {
	b := put(base(), 30, 0, wire(made(1, 2)))
	b = put(b, 10, 0, wire(made(0, 2)))
	b = put(b, 20, 0, append(wire(made(1, 1)), 0)) // that Read refuses
	b = put(b, 9, 5, wire(made(300, 1)))
	b = put(b, 40, 0, wire(made(math.MaxUint64, 1)))
	b = put(b, 12, 0, wire(changed(made(0, 15), func(x *api.Bib) { slices.Reverse(x.Targets) })))
	return put(b, 11, 0, nil)
}

// TestCovers: the blocks are told as they stand, tags and targets right or not.
func TestCovers(t *testing.T) {
	b := several()
	covers(t, b, 0, 10, 12)
	covers(t, b, 1, 30, 10, 12)
	covers(t, b, 2, 30, 12)
	covers(t, b, 3, 12)
	covers(t, b, 4, 12)
	covers(t, b, 14, 12)
	covers(t, b, 15)
	covers(t, b, 11, 12)
	covers(t, b, 30)
	covers(t, b, 300, 9)
	covers(t, b, 301)
	covers(t, b, math.MaxUint64, 40)
	covers(t, b, math.MaxUint64-1)
	for target := range uint64(400) {
		covers(t, base(), target)
	}
	covers(t, must(t, ask(7, 1)), 1, 9)
	covers(t, must(t, ask(7, 1)), 2)
	covers(t, must(t, ask(0, 300, 0)), 0, 9)
	covers(t, must(t, ask(0, 300, 0)), 300, 9)
}

// TestCoversOfOtherTypes: a block of another type covers nothing, whatever its Data is.
func TestCoversOfOtherTypes(t *testing.T) {
	for kind := uint64(2); kind < 256; kind++ {
		b := put(base(), 9, 0, wire(made(1, 1)))
		b.Blocks[3].Type = kind
		if kind == api.BlkBib {
			covers(t, b, 1, 9)
		} else {
			covers(t, b, 1)
		}
	}
	covers(t, with(base(), func(b *api.Bundle) { b.Blocks[3].Data = wire(made(1, 1)) }), 1)
}

// TestCoversOfWhatReadRefuses: of Data that are none, one of several.
func TestCoversOfWhatReadRefuses(t *testing.T) {
	for _, x := range nones() {
		if w := wire(x); len(w) <= 4096 {
			b := put(put(put(base(), 20, 0, wire(made(1, 3))), 30, 0, w), 10, 0, wire(made(0, 2)))
			covers(t, b, 1, 20, 10)
			covers(t, b, 0, 10)
			covers(t, b, 3, 20)
		}
	}
	w := wire(made(1, 1))
	for n := range w {
		covers(t, put(base(), 9, 0, w[:n]), 1)
	}
}

// TestCoversOfNoBundle: of a bundle that may not be none are told.
func TestCoversOfNoBundle(t *testing.T) {
	for _, change := range refusable() {
		for _, b := range []api.Bundle{several(), must(t, ask(7, 1))} {
			for _, target := range []uint64{0, 1, 2, 300} {
				covers(t, with(b, change), target)
			}
		}
	}
	covers(t, with(several(), func(b *api.Bundle) { b.Flags = api.FlagFragment }), 1)
	covers(t, api.Bundle{}, 0)
	covers(t, with(several(), func(b *api.Bundle) { b.Blocks[4].Number = 30 }), 1)
}

func TestCoversAgainstModel(t *testing.T) {
	c := rand.New(rand.NewSource(104))
	told := 0
	for range 3000 {
		b := base()
		for i := range c.Intn(12) {
			w := wire(chance(c))
			if c.Intn(4) == 0 {
				w[c.Intn(len(w))] ^= 1 << c.Intn(8)
			}
			b = put(b, uint64(100-7*i), uint64(c.Intn(9)), w)
		}
		for _, target := range []uint64{0, 1, 2, 3, 23, 24, math.MaxUint64} {
			want := modelCovers(b, target)
			covers(t, b, target, want...)
			told += len(want)
		}
	}
	if told < 2000 {
		t.Errorf("only %d were told", told)
	}
}
