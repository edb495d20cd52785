package disk

import (
	"math"
	"testing"
)

// P13.2

// TestWriteRefuses: sectors that are none and bytes that are no sector, and which is told first; with power and without.
func TestWriteRefuses(t *testing.T) {
	lengths := []int{0, 1, 32, 63, 65, 128, 4096}
	for _, n := range []int{1, 3} {
		p := newPair(t, n)
		p.write(0, rising(1))
		for _, at := range []int{math.MinInt, -n, -1, n, n + 1, math.MaxInt} {
			for _, k := range append(lengths, 64) {
				fails(t, p.d.Write(at, make([]byte, k)), 130)
				p.same()
			}
			fails(t, p.d.Write(at, nil), 130)
		}
		for at := range n {
			for _, k := range lengths {
				fails(t, p.d.Write(at, make([]byte, k)), 2)
				p.same()
			}
			fails(t, p.d.Write(at, nil), 2)
			fails(t, p.d.Write(at, of(9)[:0]), 2)
		}
		p.same()
		p.crash()
		for _, at := range []int{-1, 0, n} {
			for _, k := range []int{0, 63, 64, 65} {
				fails(t, p.d.Write(at, make([]byte, k)), 131)
			}
			fails(t, p.d.Write(at, nil), 131)
		}
		p.same()
	}
}

// TestReadRefuses: sectors that are none; without power that is told first.
func TestReadRefuses(t *testing.T) {
	d := made(t, 3)
	fails(t, d.Write(2, of(5)), 0)
	for _, at := range []int{math.MinInt, -3, -1, 3, 4, 65536, math.MaxInt} {
		if b, e := d.Read(at); len(b) != 0 || e != 130 {
			t.Errorf("Read(%d) = %x, %d", at, b, e)
		}
	}
	has(t, d, 2, of(5))
	d.Crash(nil)
	for _, at := range []int{-1, 0, 2, 3} {
		if b, e := d.Read(at); len(b) != 0 || e != 131 {
			t.Errorf("Read(%d) without power = %x, %d", at, b, e)
		}
	}
}

// TestWaits: writes wait in a row, and are read, until a flush does them.
func TestWaits(t *testing.T) {
	d := made(t, 3)
	steps := []struct {
		at   int
		b    []byte
		want [3][]byte
	}{
		{0, rising(1), [3][]byte{rising(1), of(0), of(0)}},
		{2, rising(2), [3][]byte{rising(1), of(0), rising(2)}},
		{0, rising(3), [3][]byte{rising(3), of(0), rising(2)}},
		{0, of(0), [3][]byte{of(0), of(0), rising(2)}},
		{0, rising(1), [3][]byte{rising(1), of(0), rising(2)}},
		{2, halves(4, 5), [3][]byte{rising(1), of(0), halves(4, 5)}},
	}
	for i, s := range steps {
		fails(t, d.Write(s.at, s.b), 0)
		is(t, d, i+1, true)
		for at, want := range s.want {
			has(t, d, at, want)
		}
	}
	fails(t, d.Flush(), 0)
	is(t, d, 0, true)
	for at, want := range steps[5].want {
		has(t, d, at, want)
	}
	fails(t, d.Write(1, rising(9)), 0)
	is(t, d, 1, true)
	has(t, d, 1, rising(9))
	d.Crash(nil)
	d.Start()
	for at, want := range steps[5].want {
		has(t, d, at, want)
	}
}

// TestWaitsUndone: a write that was not flushed is not done: without a place in keep it is gone.
func TestWaitsUndone(t *testing.T) {
	for n := range 5 {
		d := made(t, 1)
		fails(t, d.Write(0, rising(1)), 0)
		fails(t, d.Flush(), 0)
		for i := range n {
			fails(t, d.Write(0, of(byte(i))), 0)
		}
		is(t, d, n, true)
		d.Crash(nil)
		is(t, d, 0, false)
		d.Start()
		has(t, d, 0, rising(1))
	}
}

// TestFlush: of nothing, of one write, of many, of some to one sector: the last one is what it has.
func TestFlush(t *testing.T) {
	for _, n := range []int{0, 1, 2, 7, 500} {
		p := newPair(t, 3)
		for range 2 {
			for i := range n {
				p.write(i%3, rising(byte(i)))
			}
			p.counts()
			fails(t, p.d.Flush(), p.m.flush())
			is(t, p.d, 0, true)
			p.same()
			p.flush()
			p.same()
		}
		p.crash(1, 1, 1)
		p.start()
		p.same()
	}
}

// TestFlushDead: without power nothing is done, and what waits waits.
func TestFlushDead(t *testing.T) {
	d := made(t, 2)
	fails(t, d.Write(1, rising(1)), 0)
	d.Arm(0)
	for range 3 {
		fails(t, d.Flush(), 131)
		is(t, d, 1, false)
	}
	d.Crash(nil)
	fails(t, d.Flush(), 131)
	d.Start()
	has(t, d, 1, of(0))
}

// TestEachSector of a disk has what was written to it and to no other one.
func TestEachSector(t *testing.T) {
	for _, n := range []int{1, 2, 100, 65536} {
		d := made(t, n)
		for at := range n {
			b := rising(byte(at))
			b[0], b[63] = byte(at>>8), byte(at>>16)
			fails(t, d.Write(at, b), 0)
		}
		if got := d.Waiting(); got != n {
			t.Fatalf("Waiting() = %d, not %d", got, n)
		}
		for _, at := range []int{0, n / 2, n - 1} {
			ofEach(t, d, at)
		}
		fails(t, d.Flush(), 0)
		for at := range n {
			ofEach(t, d, at)
		}
	}
}

func ofEach(t *testing.T, d *Disk, at int) {
	t.Helper()
	want := rising(byte(at))
	want[0], want[63] = byte(at>>8), byte(at>>16)
	has(t, d, at, want)
}
