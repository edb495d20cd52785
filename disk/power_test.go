package disk

import (
	"fmt"
	"math"
	"testing"

	"fairlead/api"
)

// P13.3

// TestArm: the n-th write or flush finds no power, those ahead of it do.
func TestArm(t *testing.T) {
	for n := range 9 {
		for kind := range 3 { // writes alone, flushes alone, both by turns
			d := made(t, 4)
			d.Arm(n)
			waits := 0
			for i := range n + 1 {
				want := api.OK
				if i == n {
					want = api.ErrDead
				}
				is(t, d, waits, true)
				if kind == 0 || kind == 2 && i%2 == 0 {
					fails(t, d.Write(i%4, of(byte(i+1))), want)
					if i < n {
						waits++
					}
				} else {
					fails(t, d.Flush(), want)
					if i < n {
						waits = 0
					}
				}
			}
			is(t, d, waits, false)
			fails(t, d.Write(0, of(99)), 131)
			fails(t, d.Flush(), 131)
			is(t, d, waits, false)
		}
	}
}

// TestArmedWrite is not done: it does not wait, and is not read.
func TestArmedWrite(t *testing.T) {
	d := made(t, 2)
	fails(t, d.Write(0, rising(1)), 0)
	d.Arm(0)
	is(t, d, 1, true)
	has(t, d, 0, rising(1))
	fails(t, d.Write(1, rising(2)), 131)
	is(t, d, 1, false)
	if b, e := d.Read(0); len(b) != 0 || e != 131 {
		t.Errorf("Read(0) = %x, %d", b, e)
	}
	d.Start()
	is(t, d, 1, true)
	has(t, d, 0, rising(1))
	has(t, d, 1, of(0))
	d.Crash([]int{1, 1})
	d.Start()
	has(t, d, 0, rising(1))
	has(t, d, 1, of(0))
}

// TestArmedFlush is not done: what waits is what a crash may take.
func TestArmedFlush(t *testing.T) {
	for how, want := range [][]byte{of(0), of(6), halves(6, 0), halves(0, 6)} {
		d := made(t, 1)
		fails(t, d.Write(0, of(6)), 0)
		d.Arm(0)
		fails(t, d.Flush(), 131)
		is(t, d, 1, false)
		d.Crash([]int{how})
		is(t, d, 0, false)
		d.Start()
		has(t, d, 0, want)
	}
}

// TestArmDoesNotCount: calls that are refused otherwise, and those that are no writes.
func TestArmDoesNotCount(t *testing.T) {
	for n := range 4 {
		d := made(t, 2)
		d.Arm(n)
		for i := range n + 1 {
			for range 3 {
				fails(t, d.Write(-1, of(1)), 130)
				fails(t, d.Write(2, of(1)), 130)
				fails(t, d.Write(-1, nil), 130)
				fails(t, d.Write(0, nil), 2)
				fails(t, d.Write(1, of(1)[:63]), 2)
				fails(t, d.Write(1, append(of(1), 1)), 2)
				has(t, d, 1, of(0))
				d.Read(2)
				d.Sectors()
				is(t, d, i, true)
			}
			if i < n {
				fails(t, d.Write(0, of(2)), 0)
			}
		}
		fails(t, d.Write(0, of(3)), 131)
		is(t, d, n, false)
		fails(t, d.Write(-1, of(1)), 131)
		fails(t, d.Write(0, nil), 131)
	}
}

// TestArmTakenBack: by n below 0, by another Arm, by Start, by Crash.
func TestArmTakenBack(t *testing.T) {
	back := map[string]func(d *Disk){
		"Arm(-1)":       func(d *Disk) { d.Arm(-1) },
		"Arm(-2)":       func(d *Disk) { d.Arm(-2) },
		"Arm(MinInt)":   func(d *Disk) { d.Arm(math.MinInt) },
		"Arm(MaxInt)":   func(d *Disk) { d.Arm(math.MaxInt) },
		"Start":         func(d *Disk) { d.Start() },
		"Crash, Start":  func(d *Disk) { d.Crash(nil); d.Start() },
		"Arm(0), Start": func(d *Disk) { d.Arm(0); d.Start() },
		"without power": func(d *Disk) { d.Crash(nil); d.Arm(0); d.Start() },
		"Arm(1), Arm(-1)": func(d *Disk) {
			d.Arm(1)
			d.Arm(-1)
		},
	}
	for name, f := range back {
		for _, n := range []int{0, 1, 2} {
			d := made(t, 1)
			d.Arm(n)
			f(d)
			for i := range 20 {
				if e := d.Write(0, of(byte(i))); e != 0 {
					t.Fatalf("Arm(%d), %s: Write = %d", n, name, e)
				}
				if e := d.Flush(); e != 0 {
					t.Fatalf("Arm(%d), %s: Flush = %d", n, name, e)
				}
			}
		}
	}
}

// TestArmTwice: the last one tells, from where it stands.
func TestArmTwice(t *testing.T) {
	for first := range 4 {
		for ahead := range first + 1 {
			for second := range 4 {
				p := newPair(t, 1)
				p.arm(first)
				for i := range ahead {
					p.write(0, rising(byte(i)))
				}
				p.arm(second)
				for i := range second {
					fails(t, p.d.Write(0, rising(byte(i))), p.m.write(0, rising(byte(i))))
					is(t, p.d, ahead+i+1, true)
				}
				fails(t, p.d.Flush(), 131)
				is(t, p.d, ahead+second, false)
			}
		}
	}
}

// TestArmGreat: a great n is not reached, and takes no call round.
func TestArmGreat(t *testing.T) {
	for _, n := range []int{1000, math.MaxInt32, math.MaxInt - 1, math.MaxInt} {
		d := made(t, 1)
		d.Arm(n)
		for range 500 {
			fails(t, d.Write(0, of(1)), 0)
			fails(t, d.Flush(), 0)
		}
		is(t, d, 0, true)
		if n == 1000 {
			fails(t, d.Flush(), 131)
		}
	}
}

// TestCrashKeeps: each number of keep, of one write to a sector that had something.
func TestCrashKeeps(t *testing.T) {
	cases := map[int][]byte{
		0:             of('o'),
		1:             of('n'),
		2:             halves('n', 'o'),
		3:             halves('o', 'n'),
		4:             of('o'),
		5:             of('o'),
		-1:            of('o'),
		-2:            of('o'),
		-3:            of('o'),
		1 << 32:       of('o'),
		1<<32 + 1:     of('o'),
		257:           of('o'),
		math.MaxInt:   of('o'),
		math.MinInt:   of('o'),
		math.MinInt32: of('o'),
	}
	for how, want := range cases {
		d := made(t, 1)
		fails(t, d.Write(0, of('o')), 0)
		fails(t, d.Flush(), 0)
		fails(t, d.Write(0, of('n')), 0)
		d.Crash([]int{how})
		is(t, d, 0, false)
		d.Start()
		is(t, d, 0, true)
		if b, e := d.Read(0); string(b) != string(want) || e != 0 {
			t.Errorf("keep %d: %x, %d", how, b, e)
		}
	}
}

// TestCrashHalves: which bytes a half has, in a sector whose bytes are all others.
func TestCrashHalves(t *testing.T) {
	for how := 2; how <= 3; how++ {
		d := made(t, 1)
		d.Write(0, rising(100))
		d.Flush()
		d.Write(0, rising(0))
		d.Crash([]int{how})
		d.Start()
		b, _ := d.Read(0)
		for j, c := range b {
			want := byte(100 + j)
			if (how == 2) == (j < 32) {
				want = byte(j)
			}
			if c != want {
				t.Errorf("keep %d: byte %d is %d, not %d", how, j, c, want)
			}
		}
	}
}

// TestCrashRows: all keeps of up to three writes, to each choice of two sectors, of all lengths up to one more than wait.
func TestCrashRows(t *testing.T) {
	hows := []int{0, 1, 2, 3, 4, -1}
	for n := range 4 {
		for places := range 1 << n {
			for length := range n + 2 {
				rows := 1
				for range length {
					rows *= len(hows)
				}
				for row := range rows {
					crashRow(t, hows, n, places, length, row)
				}
			}
		}
	}
}

func crashRow(t *testing.T, hows []int, n, places, length, row int) {
	t.Helper()
	p := newPair(t, 2)
	p.write(0, rising(200))
	p.flush()
	for i := range n {
		p.write(places>>i&1, rising(byte(1+70*i)))
	}
	keep := make([]int, length)
	for i := range keep {
		keep[i] = hows[row%len(hows)]
		row /= len(hows)
	}
	p.crash(keep...)
	p.counts()
	p.start()
	p.same()
}

// TestCrashOrder: writes to one sector are done one behind the other, by halves too.
func TestCrashOrder(t *testing.T) {
	cases := []struct {
		keep []int
		want []byte
	}{
		{nil, of(0)},
		{[]int{1}, of(1)},
		{[]int{1, 1}, of(2)},
		{[]int{1, 1, 1}, of(3)},
		{[]int{1, 0, 0}, of(1)},
		{[]int{0, 1, 0}, of(2)},
		{[]int{0, 0, 1}, of(3)},
		{[]int{0, 0, 0, 1}, of(0)},
		{[]int{1, 2, 3}, halves(2, 3)},
		{[]int{1, 3, 2}, halves(3, 2)},
		{[]int{2, 3, 0}, halves(1, 2)},
		{[]int{3, 2, 0}, halves(2, 1)},
		{[]int{2, 2, 2}, halves(3, 0)},
		{[]int{3, 3, 3}, halves(0, 3)},
		{[]int{2, 1, 3}, halves(2, 3)},
		{[]int{0, 2, 9}, halves(2, 0)},
		{[]int{1, -2, 3}, halves(1, 3)},
		{[]int{2, 0, 3, 1, 1}, halves(1, 3)},
	}
	for _, c := range cases {
		d := made(t, 1)
		for i := range 3 {
			fails(t, d.Write(0, of(byte(i+1))), 0)
		}
		d.Crash(c.keep)
		d.Start()
		if b, e := d.Read(0); string(b) != string(c.want) || e != 0 {
			t.Errorf("keep %v: %x, %d", c.keep, b, e)
		}
	}
}

// TestCrashAgain: none waits behind a crash, so another one, with or without power, changes nothing.
func TestCrashAgain(t *testing.T) {
	for _, started := range []bool{false, true} {
		for _, keep := range [][]int{nil, {0}, {1}, {2}, {3}, {1, 1, 1}} {
			d := made(t, 2)
			d.Write(0, rising(1))
			d.Write(0, rising(101))
			d.Crash([]int{2})
			if started {
				d.Start()
			}
			d.Crash(keep)
			is(t, d, 0, false)
			d.Start()
			has(t, d, 0, append(rising(1)[:32:32], of(0)[:32]...))
			fails(t, d.Flush(), 0)
			has(t, d, 0, append(rising(1)[:32:32], of(0)[:32]...))
			has(t, d, 1, of(0))
		}
	}
}

// TestCrashOfNothing: the power goes all the same.
func TestCrashOfNothing(t *testing.T) {
	for _, keep := range [][]int{nil, {}, {0}, {1}, {2, 3, 1}} {
		p := newPair(t, 2)
		for range 2 {
			p.crash(keep...)
			is(t, p.d, 0, false)
			p.same()
			p.start()
			p.same()
			p.write(1, rising(3))
			p.flush()
		}
	}
}

// TestStart: with power and without, behind an armed write and behind a crash; what waits is as it was.
func TestStart(t *testing.T) {
	d := made(t, 2)
	for range 3 {
		d.Start()
		is(t, d, 0, true)
	}
	fails(t, d.Write(0, rising(1)), 0)
	d.Start()
	is(t, d, 1, true)
	has(t, d, 0, rising(1))
	d.Arm(1)
	fails(t, d.Write(1, rising(2)), 0)
	fails(t, d.Write(0, rising(3)), 131)
	for range 2 {
		is(t, d, 2, d.Alive())
		d.Start()
		is(t, d, 2, true)
		has(t, d, 0, rising(1))
		has(t, d, 1, rising(2))
	}
	fails(t, d.Write(0, rising(3)), 0)
	is(t, d, 3, true)
	d.Crash([]int{0, 1, 1})
	d.Start()
	has(t, d, 0, rising(3))
	has(t, d, 1, rising(2))
}

// TestEveryStop: a row of writes and flushes, stopped at each place, with each keep of what waits then.
func TestEveryStop(t *testing.T) {
	row := []int{0, 1, -1, 0, 0, -1, -1, 1, 0} // sectors that are written; below 0: a flush
	for stop := range len(row) + 2 {
		for keep := range 256 {
			p := newPair(t, 2)
			p.arm(stop)
			for i, at := range row {
				if at < 0 {
					p.flush()
				} else {
					p.write(at, rising(byte(i*28)))
				}
			}
			p.counts()
			if got, want := p.d.Alive(), stop >= len(row); got != want {
				t.Fatal(fmt.Sprint("stopped at ", stop, ": power ", got))
			}
			p.crash(keep&3, keep>>2&3, keep>>4&3, keep>>6)
			p.start()
			p.same()
		}
	}
}
