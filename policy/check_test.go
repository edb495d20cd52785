package policy

import (
	"math"
	"math/rand"
	"slices"
	"testing"

	"fairlead/api"
)

// P11.1

// checks asks for an answer of Check, and of the model; what may not be is the first thing that Judge tells.
func checks(t *testing.T, p api.Policy, ring [][]byte, want bool) {
	t.Helper()
	if got := Check(p, ring); got != want || modelCheck(p, ring) != want {
		t.Errorf("Check(%s, %s) = %v, not %v", brief(p), brief(ring), got, want)
	}
	for _, b := range []api.Bundle{base(), sealed(base(), sealOf(9, 7, keyOf(0))), {}} {
		if got := Judge(p, ring, b); (got == 1) == want {
			t.Errorf("Judge(%s, %s, %s) = %d", brief(p), brief(ring), brief(b), got)
		}
	}
}

func TestKey(t *testing.T) {
	for n := range 17 {
		for key := -20; key < 40; key++ {
			checks(t, asking(key, 0), ringOf(n), key == -1 || key >= 0 && key < n)
		}
		for _, key := range []int{math.MinInt, math.MinInt + 1, -256, -1 << 32, -1<<32 - 1, 255, 256, 1 << 32, 1<<32 + 1, 1<<63 - 1} {
			checks(t, asking(key, 0), ringOf(n), false)
		}
	}
}

// TestKeyBehindTheEnd: what room a ring has behind its end is nobody's.
func TestKeyBehindTheEnd(t *testing.T) {
	all := ringOf(8)
	for n := range 9 {
		for key := range 10 {
			checks(t, asking(key, 0), all[:n], key < n)
		}
	}
	sixteen := append(ringOf(16), nil, row(65, 1))[:16]
	checks(t, asking(15, 0), sixteen, true)
}

func TestScope(t *testing.T) {
	for _, key := range []int{-1, 0, 1} {
		for scope := -20; scope < 300; scope++ {
			checks(t, asking(key, scope), ringOf(2), scope >= 0 && scope <= 7)
		}
		for _, scope := range []int{math.MinInt, math.MinInt + 7, -1 << 32, -1<<32 + 1, 1 << 32, 1<<32 + 7, math.MaxInt} {
			checks(t, asking(key, scope), ringOf(2), false)
		}
	}
}

func TestSources(t *testing.T) {
	for n := range 40 {
		p := api.Policy{Key: -1, Sources: sources(n)}
		checks(t, p, nil, n <= 16)
		p.Sources = slices.Repeat([]api.Eid{ipn(1, 2)}, n) // the same one again is none the worse
		checks(t, p, nil, n <= 16)
	}
	checks(t, api.Policy{Key: -1, Sources: sources(4096)}, nil, false)
	checks(t, api.Policy{Key: -1, Sources: append(sources(16), api.Eid{})[:16]}, nil, true)
}

// TestOfOneSource: one that may not be, at each place; None may be.
func TestOfOneSource(t *testing.T) {
	for _, n := range []int{1, 2, 16} {
		for i := range n {
			set := func(e api.Eid) api.Policy {
				p := api.Policy{Key: 0, Scope: 7, Sources: sources(n)}
				p.Sources[i] = e
				return p
			}
			for _, e := range noSources() {
				checks(t, set(e), ringOf(1), false)
			}
			for _, e := range []api.Eid{dtn(""), ipn(1, 0), ipn(math.MaxUint32, math.MaxUint32), dtn("//a/"), dtn("//a/b/c")} {
				checks(t, set(e), ringOf(1), true)
			}
		}
	}
}

func TestRing(t *testing.T) {
	for n := range 40 {
		checks(t, asking(-1, 0), ringOf(n), n <= 16)
		if n > 0 {
			checks(t, asking(0, 7), ringOf(n), n <= 16)
			checks(t, asking(n-1, 7), ringOf(n), n <= 16)
		}
		checks(t, asking(-1, 0), slices.Repeat([][]byte{keyOf(0)}, n), n <= 16)
		checks(t, asking(-1, 0), make([][]byte, n), n == 0)
	}
	checks(t, asking(-1, 0), ringOf(4096), false)
}

// TestOfOneKey: the bytes of one key, at each place, be it the one that is asked for or another.
func TestOfOneKey(t *testing.T) {
	for _, n := range []int{1, 2, 16} {
		for i := range n {
			for _, size := range []int{0, 1, 2, 31, 32, 33, 63, 64, 65, 66, 127, 128, 256, 257, 4096} {
				for _, key := range []int{-1, 0, i, n - 1} {
					ring := ringOf(n)
					ring[i] = row(size, size)
					checks(t, asking(key, 7), ring, size >= 1 && size <= 64)
				}
			}
			ring := ringOf(n)
			ring[i] = nil
			checks(t, asking(-1, 0), ring, false)
			ring[i] = make([]byte, 64) // noughts are bytes, too
			checks(t, asking(-1, 0), ring, true)
			ring[i] = row(65, 1)[:64]
			checks(t, asking(-1, 0), ring, true)
			ring[i] = row(64, 1)[:0]
			checks(t, asking(-1, 0), ring, false)
		}
	}
}

// TestLife: of it nothing is asked. It is never below 0: what a count below 0 would be is one of the greatest.
func TestLife(t *testing.T) {
	for _, life := range []uint64{0, 1, 1000, math.MaxInt64, math.MaxInt64 + 1, math.MaxUint64 - 1, math.MaxUint64} {
		checks(t, api.Policy{Key: -1, Life: life}, nil, true)
		checks(t, api.Policy{Key: 0, Life: life}, ringOf(1), true)
		checks(t, api.Policy{Key: 1, Life: life}, ringOf(1), false)
	}
}

func TestZeroPolicy(t *testing.T) {
	checks(t, api.Policy{}, nil, false)
	checks(t, api.Policy{}, [][]byte{}, false)
	checks(t, api.Policy{}, ringOf(1), true)
	checks(t, api.Policy{Key: -1, Sources: []api.Eid{}}, [][]byte{}, true)
}

func TestCheckAgainstModel(t *testing.T) {
	c := rand.New(rand.NewSource(111))
	told := map[bool]int{}
	for range 20000 {
		p := api.Policy{Key: c.Intn(19) - 2, Scope: c.Intn(8), Sources: sources(c.Intn(17)), Life: c.Uint64()}
		ring := ringOf(c.Intn(17))
		if c.Intn(4) == 0 {
			p.Scope = c.Intn(11) - 2
		}
		if c.Intn(4) == 0 {
			p.Sources = append(p.Sources, noSources()[c.Intn(len(noSources()))])
		}
		if len(ring) > 0 && c.Intn(4) == 0 {
			ring[c.Intn(len(ring))] = row(c.Intn(70), 1)
		}
		want := modelCheck(p, ring)
		if got := Check(p, ring); got != want {
			t.Fatalf("Check(%v, %x) = %v, not %v", p, ring, got, want)
		}
		told[want]++
	}
	if told[true] < 2000 || told[false] < 2000 {
		t.Errorf("%v were told", told)
	}
}
