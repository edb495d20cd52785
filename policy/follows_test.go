package policy

import (
	"bytes"
	"math"
	"math/rand"
	"slices"
	"testing"

	"fairlead/api"
	"fairlead/bib"
)

// P11.3

// carries tells whether a bundle has a tag over its payload made with that key, with such a scope.
func carries(b api.Bundle, key []byte, scope int) bool {
	return slices.ContainsFunc(b.Blocks, func(y api.Block) bool {
		x, errno := bib.Read(y.Data)
		at := slices.Index(x.Targets, 1)
		if y.Type != 11 || errno != api.OK || at < 0 || x.Scope&scope != scope {
			return false
		}
		w, there := plain(b, 1, x.Scope, y)
		return there && bytes.Equal(x.Tags[at], tagOf(key, w))
	})
}

// TestAcceptedIsTagged: under a policy with a key what is accepted carries a tag.
func TestAcceptedIsTagged(t *testing.T) {
	c := rand.New(rand.NewSource(113))
	told := 0
	for range 10000 {
		p, ring, b := chance(c)
		if p.Key == -1 || Judge(p, ring, b) != 0 {
			continue
		}
		told++
		if !carries(b, ring[p.Key], p.Scope) {
			t.Fatalf("%v, %x accepts %s", p, ring, brief(b))
		}
	}
	if told < 500 {
		t.Errorf("only %d were accepted", told)
	}
}

// changes answers what may be otherwise in a bundle with an integrity block at place 3 of the payload alone, and the bits of a scope that show it (8: any scope does).
func changes() map[int][]func(b *api.Bundle) {
	l := map[int][]func(b *api.Bundle){
		0: {
			func(b *api.Bundle) { b.Blocks[0].Data[1]++ },
			func(b *api.Bundle) { b.Blocks = b.Blocks[1:] },
			func(b *api.Bundle) { b.Blocks[4].Crc = 2 },
			func(b *api.Bundle) { b.Blocks[3].Crc = 1 },
		},
		1: {
			func(b *api.Bundle) { b.Crc = 1 },
			func(b *api.Bundle) { b.Dest = ipn(3, 8) },
			func(b *api.Bundle) { b.Source = ipn(1, 3) },
			func(b *api.Bundle) { b.Report = dtn("") },
			func(b *api.Bundle) { b.Time++ },
			func(b *api.Bundle) { b.Seq = math.MaxUint64 },
			func(b *api.Bundle) { b.Life-- },
			func(b *api.Bundle) { b.Flags ^= api.FlagDeliver },
		},
		2: {func(b *api.Bundle) { b.Blocks[4].Flags++ }},
		4: {func(b *api.Bundle) { b.Blocks[3].Flags++ }, func(b *api.Bundle) { b.Blocks[3].Number++ }},
		8: {
			func(b *api.Bundle) { b.Blocks[4].Data = nil },
			func(b *api.Bundle) { b.Blocks[4].Data = append(b.Blocks[4].Data, 0) },
		},
	}
	for bit := range 24 {
		l[8] = append(l[8], func(b *api.Bundle) { b.Blocks[4].Data[bit/8] ^= 1 << (bit % 8) })
	}
	return l
}

// TestChanged: what was signed and is changed then is not accepted, if the change is in scope; else it is.
func TestChanged(t *testing.T) {
	for scope := range 8 {
		signed := sealed(base(), sealOf(9, scope, keyOf(0)))
		for part, l := range changes() {
			for _, change := range l {
				want := 0
				if (scope|8)&part != 0 {
					want = 6
				}
				judges(t, asking(0, scope), ringOf(1), with(signed, change), want)
			}
		}
	}
}

// TestTurnedBits: no bit of an integrity block can be turned but in its source, which no tag is made over.
func TestTurnedBits(t *testing.T) {
	for scope := range 8 {
		signed := sealed(base(), sealOf(9, scope, keyOf(0)))
		size := len(signed.Blocks[3].Data)
		for bit := range 8 * size {
			b := with(signed, func(b *api.Bundle) { b.Blocks[3].Data[bit/8] ^= 1 << (bit % 8) })
			want := 0
			if !carries(b, keyOf(0), scope) {
				want = modelJudge(asking(0, scope), ringOf(1), b)
				if want == 0 {
					t.Fatalf("the model accepts %v", b)
				}
			}
			judges(t, asking(0, scope), ringOf(1), b, want)
			if bit >= 8*(size-32) && want != 6 {
				t.Errorf("a tag with bit %d turned: %d", bit, want)
			}
		}
	}
}

// TestTagOfAnother: a block that was made for another bundle, or another payload, is worth nothing here.
func TestTagOfAnother(t *testing.T) {
	for scope := range 8 {
		other := sealed(with(base(), func(b *api.Bundle) { b.Blocks[3].Data = []byte("other") }), sealOf(9, scope, keyOf(0)))
		judges(t, asking(0, 0), ringOf(1), put(base(), other.Blocks[3]), 6)
		other = sealed(with(base(), func(b *api.Bundle) { b.Seq++ }), sealOf(9, scope, keyOf(0)))
		want := 0
		if scope&1 != 0 {
			want = 6
		}
		judges(t, asking(0, 0), ringOf(1), put(base(), other.Blocks[3]), want)
	}
}

// lessThan answers policies that ask less than p in one thing.
func lessThan(p api.Policy) []api.Policy {
	l := []api.Policy{p, p, p}
	l[0].Key = -1
	l[1].Sources = nil
	l[2].Life = 0
	for _, bit := range []int{1, 2, 4} {
		q := p
		q.Scope &^= bit
		l = append(l, q)
	}
	if len(p.Sources) > 0 && len(p.Sources) < 16 {
		q := p
		q.Sources = append(slices.Clone(p.Sources), ipn(77, 7))
		l = append(l, q)
	}
	if p.Life > 0 && p.Life < math.MaxUint64 {
		q := p
		q.Life++
		l = append(l, q)
	}
	return l
}

// TestOfLess: what a policy accepts one that asks less does, too; and the latter refuses nothing for a reason that stands ahead of the former's.
func TestOfLess(t *testing.T) {
	c := rand.New(rand.NewSource(114))
	told := map[bool]int{}
	for range 4000 {
		p, ring, b := chance(c)
		more := Judge(p, ring, b)
		if more == 1 {
			continue
		}
		for _, q := range lessThan(p) {
			less := Judge(q, ring, b)
			if more == 0 && less != 0 || less != 0 && less < more {
				t.Fatalf("%v: %d, but %v: %d of %x, %s", p, more, q, less, ring, brief(b))
			}
			told[less == more]++
		}
	}
	if told[true] < 2000 || told[false] < 1000 {
		t.Errorf("%v were told", told)
	}
}
