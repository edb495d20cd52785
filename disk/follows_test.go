package disk

import (
	"bytes"
	"math"
	"math/rand"
	"testing"
)

// P13.4, and rows of calls

// TestFlushedStays: whatever comes behind a flush, a half of a sector has what was flushed, or what a write behind that has there.
func TestFlushedStays(t *testing.T) {
	c := rand.New(rand.NewSource(131))
	for range 3000 {
		n := 1 + c.Intn(6)
		d := made(t, n)
		flushed := make([][]byte, n)
		for at := range flushed {
			flushed[at] = chanceSector(c)
			fails(t, d.Write(at, flushed[at]), 0)
		}
		fails(t, d.Flush(), 0)
		may := make([][][]byte, n)
		for at := range may {
			may[at] = [][]byte{flushed[at]}
		}
		if c.Intn(2) == 0 {
			d.Arm(c.Intn(5))
		}
		for range c.Intn(8) {
			at, b := c.Intn(n), chanceSector(c)
			if d.Write(at, b) == 0 {
				may[at] = append(may[at], b)
			}
		}
		d.Crash(chanceKeep(c, 8))
		d.Start()
		for at := range may {
			b, e := d.Read(at)
			fails(t, e, 0)
			if !oneHas(may[at], b, 0) || !oneHas(may[at], b, 32) {
				t.Fatalf("sector %d has %x, of %x", at, b, may[at])
			}
			if len(may[at]) == 1 && !bytes.Equal(b, flushed[at]) {
				t.Fatalf("sector %d has %x, not %x", at, b, flushed[at])
			}
		}
	}
}

// oneHas tells whether one of several sectors has the same half from a byte on.
func oneHas(l [][]byte, b []byte, from int) bool {
	for _, x := range l {
		if bytes.Equal(x[from:from+32], b[from:from+32]) {
			return true
		}
	}
	return false
}

func chanceSector(c *rand.Rand) []byte {
	b := make([]byte, 64)
	c.Read(b)
	return b
}

// chanceKeep answers a keep of up to most places.
func chanceKeep(c *rand.Rand, most int) []int {
	hows := []int{0, 1, 2, 3, 1, 2, 3, 4, -1, math.MinInt, math.MaxInt}
	keep := make([]int, c.Intn(most+1))
	for i := range keep {
		keep[i] = hows[c.Intn(len(hows))]
	}
	return keep
}

// everyRow does all rows of up to most of the calls to a disk of two sectors. What each row leads to is asked at its end: each of its beginnings is a row, too.
func everyRow(t *testing.T, most int, calls []func(p *pair)) {
	t.Helper()
	for n := range most + 1 {
		rows := 1
		for range n {
			rows *= len(calls)
		}
		for row := range rows {
			p := newPair(t, 2)
			rest := row
			for range n {
				calls[rest%len(calls)](p)
				rest /= len(calls)
			}
			p.same()
		}
	}
}

// TestEveryRow: all rows of up to four calls of each kind.
func TestEveryRow(t *testing.T) {
	a, b, c := rising(1), rising(101), rising(201)
	everyRow(t, 4, []func(p *pair){
		func(p *pair) { p.write(0, a) },
		func(p *pair) { p.write(0, b) },
		func(p *pair) { p.write(1, c) },
		func(p *pair) { p.write(2, a) },
		func(p *pair) { p.write(1, a[:63]) },
		func(p *pair) { p.flush() },
		func(p *pair) { p.arm(-1) },
		func(p *pair) { p.arm(0) },
		func(p *pair) { p.arm(1) },
		func(p *pair) { p.arm(2) },
		func(p *pair) { p.crash() },
		func(p *pair) { p.crash(2, 1) },
		func(p *pair) { p.crash(3) },
		func(p *pair) { p.crash(0, 1, 1) },
		func(p *pair) { p.start() },
	})
}

// TestEveryLongRow: all rows of up to six calls of some kinds.
func TestEveryLongRow(t *testing.T) {
	a, b := rising(1), rising(101)
	everyRow(t, 6, []func(p *pair){
		func(p *pair) { p.write(0, a) },
		func(p *pair) { p.write(0, b) },
		func(p *pair) { p.flush() },
		func(p *pair) { p.arm(1) },
		func(p *pair) { p.crash(2, 3) },
		func(p *pair) { p.start() },
	})
}

// step does something of chance.
func (p *pair) step(c *rand.Rand) {
	n := len(p.m.kept)
	switch k := c.Intn(40); {
	case k < 22:
		p.write(c.Intn(n), chanceSector(c))
	case k < 24:
		p.write(c.Intn(n+4)-2, chanceSector(c))
	case k < 25:
		p.write(c.Intn(n+2)-1, make([]byte, c.Intn(130)))
	case k < 30:
		p.flush()
	case k < 32:
		p.arm(c.Intn(12) - 2)
	case k < 34:
		p.crash(chanceKeep(c, len(p.m.row)+2)...)
	default:
		p.start()
	}
}

func TestAgainstModel(t *testing.T) {
	c := rand.New(rand.NewSource(132))
	longest := 0
	for range 400 {
		p := newPair(t, 1+c.Intn(9))
		for range 150 {
			p.step(c)
			p.counts()
			p.reads(c.Intn(len(p.m.kept)+2) - 1)
			longest = max(longest, len(p.m.row))
		}
		p.same()
	}
	if longest < 10 {
		t.Errorf("no more than %d writes waited", longest)
	}
}

// TestManyWait: more writes wait than there are sectors, and each is done as keep tells.
func TestManyWait(t *testing.T) {
	c := rand.New(rand.NewSource(133))
	for _, n := range []int{1, 2, 50} {
		p := newPair(t, n)
		for range 400 {
			p.write(c.Intn(n), chanceSector(c))
		}
		p.same()
		p.crash(chanceKeep(c, 450)...)
		p.start()
		p.same()
		for range 400 {
			p.write(c.Intn(n), chanceSector(c))
		}
		p.flush()
		p.same()
	}
}
