package policy

import (
	"math"
	"math/rand"
	"slices"
	"testing"

	"fairlead/api"
)

// P11.2: the numbers from 1 to 4, the words, and which number is the first.

// TestNoPolicy: of a policy that may not be each bundle is 1, one that may not be, too.
func TestNoPolicy(t *testing.T) {
	bundles := append(rightBundles(), api.Bundle{})
	for _, b := range bundles {
		judges(t, asking(-2, 0), ringOf(2), b, 1)
		judges(t, asking(2, 0), ringOf(2), b, 1)
		judges(t, asking(0, 0), nil, b, 1)
		judges(t, asking(-1, -1), ringOf(2), b, 1)
		judges(t, asking(-1, 8), ringOf(2), b, 1)
		judges(t, asking(-1, 0), ringOf(17), b, 1)
		judges(t, asking(-1, 0), [][]byte{{}}, b, 1)
		judges(t, asking(0, 0), [][]byte{keyOf(0), row(65, 1)}, b, 1)
		judges(t, api.Policy{Key: -1, Sources: append(sources(16), b.Source)}, nil, b, 1)
		judges(t, api.Policy{Key: -1, Sources: []api.Eid{b.Source, {}}}, nil, b, 1)
		judges(t, api.Policy{}, nil, b, 1)
	}
}

// TestNoBundle: of a bundle that layer 6 refuses.
func TestNoBundle(t *testing.T) {
	for _, change := range refusable() {
		for _, b := range []api.Bundle{base(), sealed(base(), sealOf(9, 7, keyOf(0)))} {
			b = with(b, change)
			judges(t, asking(-1, 0), nil, b, 2)
			judges(t, asking(0, 7), ringOf(1), b, 2)
			judges(t, api.Policy{Key: 0, Scope: 7, Sources: sources(16), Life: 1}, ringOf(1), b, 2)
			judges(t, api.Policy{Key: -1, Sources: []api.Eid{ipn(1, 2)}, Life: 1000}, nil, b, 2)
		}
	}
	judges(t, asking(-1, 0), nil, api.Bundle{}, 2)
	twice := sealed(sealed(base(), sealOf(9, 7, keyOf(0))), sealOf(9, 7, keyOf(0)))
	judges(t, asking(0, 7), ringOf(1), twice, 2)
}

// TestSource: the bundle's source at each place, and at none.
func TestSource(t *testing.T) {
	for n := range 17 {
		p := api.Policy{Key: -1, Sources: sources(n)}
		want := 3
		if n == 0 {
			want = 0
		}
		judges(t, p, nil, base(), want)
		for i := range n {
			p.Sources = sources(n)
			p.Sources[i] = ipn(1, 2)
			judges(t, p, nil, base(), 0)
		}
	}
	// What stands behind the end is nobody's.
	behind := append(sources(3), ipn(1, 2), ipn(1, 2))[:3]
	judges(t, api.Policy{Key: -1, Sources: behind}, nil, base(), 3)
	judges(t, api.Policy{Key: -1, Sources: behind[:0]}, nil, base(), 0)
}

// TestAlikeSources: an endpoint is another one where anything of it is; of one node, or as destination, is not enough.
func TestAlikeSources(t *testing.T) {
	l := []api.Eid{
		dtn(""), ipn(1, 2), ipn(2, 1), ipn(1, 0), ipn(1, 3), ipn(12, 0), ipn(1<<31, 2), ipn(1, 1<<31),
		dtn("//a/"), dtn("//a/b"), dtn("//a/b/"), dtn("//a//b"), dtn("//b/a"), dtn("//1.2/"), dtn("//aa/"),
	}
	for _, is := range l {
		for _, may := range l {
			b := with(base(), func(b *api.Bundle) { b.Source, b.Flags = is, api.FlagWhole })
			p := api.Policy{Key: -1, Sources: []api.Eid{may}}
			want := 3
			if is == may {
				want = 0
			}
			judges(t, p, nil, b, want)
			p.Sources = slices.DeleteFunc(slices.Clone(l), func(e api.Eid) bool { return e != may && want != 0 })
			judges(t, p, nil, b, want)
		}
	}
	for _, e := range []api.Eid{base().Dest, base().Report} {
		judges(t, api.Policy{Key: -1, Sources: []api.Eid{e}}, nil, base(), 3)
	}
}

// TestLifeAbove: the policy's as great as the bundle's, one less and one more. Nothing is below 0.
func TestLifeAbove(t *testing.T) {
	lives := []uint64{
		0, 1, 2, 3, 255, 256, 257, 999, 1000, 1001, math.MaxUint32, math.MaxUint32 + 1, math.MaxUint32 + 1000,
		math.MaxInt64 - 1, math.MaxInt64, math.MaxInt64 + 1, math.MaxUint64 - 1, math.MaxUint64,
	}
	for _, is := range lives {
		for _, may := range lives {
			want := 0
			if may > 0 && is > may {
				want = 4
			}
			b := with(base(), func(b *api.Bundle) { b.Life = is })
			judges(t, api.Policy{Key: -1, Life: may}, nil, b, want)
			judges(t, api.Policy{Key: -1, Life: may, Sources: []api.Eid{ipn(1, 2)}}, nil, b, want)
			judges(t, api.Policy{Key: 0, Life: may}, ringOf(1), sealed(b, sealOf(9, 0, keyOf(0))), want)
		}
	}
	// A lifetime is no time: neither Time nor an age counts.
	b := with(base(), func(b *api.Bundle) { b.Time, b.Blocks[1].Data = math.MaxUint64, []byte{0x19, 0xff, 0xff} })
	judges(t, api.Policy{Key: -1, Life: 1000}, nil, b, 0)
}

// TestFirst: bundles for which any of the numbers from 1 to 6 hold: the first one is answered.
func TestFirst(t *testing.T) {
	for faults := range 1 << 4 {
		for signs := range 3 { // as asked for, by another key, not at all
			p := api.Policy{Key: 0, Scope: 7, Sources: []api.Eid{dtn("//x/"), ipn(1, 2)}, Life: 1000}
			b := base()
			want := []int{0, 6, 5}[signs]
			if faults&8 != 0 {
				b.Life, want = 1001, 4
			}
			if faults&4 != 0 {
				b.Source, want = ipn(1, 3), 3
			}
			if signs < 2 {
				b = sealed(b, sealOf(9, 7, keyOf(signs)))
			}
			if faults&2 != 0 {
				b.Crc, want = 3, 2
			}
			if faults&1 != 0 {
				p.Scope, want = 8, 1
			}
			judges(t, p, ringOf(2), b, want)
			if signs > 0 && want > 4 {
				want = 0
			}
			p.Key = -1
			judges(t, p, ringOf(2), b, want)
		}
	}
}

func TestReason(t *testing.T) {
	words := []string{"accepted", "policy", "bundle", "source", "life", "unsigned", "tag"}
	for code := -300; code < 300; code++ {
		want := ""
		if code >= 0 && code < len(words) {
			want = words[code]
		}
		if got := Reason(code); got != want {
			t.Errorf("Reason(%d) = %q, not %q", code, got, want)
		}
	}
	for _, code := range []int{math.MinInt, math.MinInt + 1, -1 << 32, -1<<32 + 3, 1 << 32, 1<<32 + 6, math.MaxInt - 1, math.MaxInt} {
		if got := Reason(code); got != "" {
			t.Errorf("Reason(%d) = %q", code, got)
		}
	}
}

// TestReasonOfJudge: whatever Judge answers has a word, that of its number.
func TestReasonOfJudge(t *testing.T) {
	for _, c := range []struct {
		p    api.Policy
		b    api.Bundle
		word string
	}{
		{asking(-1, 0), base(), "accepted"},
		{asking(0, 7), sealed(base(), sealOf(9, 7, keyOf(0))), "accepted"},
		{asking(1, 7), base(), "policy"},
		{asking(0, 7), api.Bundle{}, "bundle"},
		{api.Policy{Sources: sources(1)}, base(), "source"},
		{api.Policy{Life: 999}, base(), "life"},
		{asking(0, 7), base(), "unsigned"},
		{asking(0, 7), sealed(base(), sealOf(9, 7, keyOf(1))), "tag"},
	} {
		if got := Reason(Judge(c.p, ringOf(1), c.b)); got != c.word {
			t.Errorf("%v of %v: %q, not %q", c.p, c.b, got, c.word)
		}
	}
}

// chance answers a question of chance, all its parts mostly right.
func chance(c *rand.Rand) (api.Policy, [][]byte, api.Bundle) {
	one := func(n int) bool { return c.Intn(n) == 0 }
	ring := ringOf(1 + c.Intn(4))
	p := asking(c.Intn(len(ring)+1)-1, c.Intn(8)&c.Intn(8))
	b := base()
	if one(2) {
		p.Sources = append(sources(c.Intn(3)), ipn(1, uint64(2+c.Intn(6)/5)))
	}
	if one(2) {
		p.Life = uint64(990 + c.Intn(40))
	}
	for i := range c.Intn(4) {
		targets := []uint64{0, 1, 2, 4, 300, 55}
		c.Shuffle(len(targets), func(i, j int) { targets[i], targets[j] = targets[j], targets[i] })
		s := sealOf(uint64(20-i), c.Intn(8)|c.Intn(8), keyOf(c.Intn(len(ring))), targets[:1+c.Intn(3)]...)
		s.flags = uint64(c.Intn(3))
		b = sealed(b, s)
	}
	switch c.Intn(16) {
	case 0:
		p.Scope = c.Intn(20) - 6
	case 1:
		ring[c.Intn(len(ring))] = row(c.Intn(70), 1)
	case 2:
		refusable()[c.Intn(len(refusable()))](&b)
	case 3:
		at := c.Intn(len(b.Blocks))
		if data := b.Blocks[at].Data; len(data) > 0 {
			data[c.Intn(len(data))] ^= 1 << c.Intn(8)
		}
	case 4:
		b.Seq++
	case 5:
		c.Shuffle(len(b.Blocks)-1, func(i, j int) { b.Blocks[i], b.Blocks[j] = b.Blocks[j], b.Blocks[i] })
	}
	return p, ring, b
}

func TestJudgeAgainstModel(t *testing.T) {
	c := rand.New(rand.NewSource(112))
	told := map[int]int{}
	for range 20000 {
		p, ring, b := chance(c)
		want := modelJudge(p, ring, b)
		if got := Judge(p, ring, b); got != want {
			t.Fatalf("Judge(%v, %x, %s) = %d, not %d", p, ring, brief(b), got, want)
		}
		told[want]++
	}
	for code := range 7 {
		if told[code] < 300 {
			t.Errorf("%v were told", told)
		}
	}
}
