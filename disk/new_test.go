package disk

import (
	"math"
	"testing"

	"fairlead/api"
)

// P13.1

func TestNew(t *testing.T) {
	for _, n := range []int{1, 2, 3, 40, 65535, 65536} {
		d, e := New(n)
		if d == nil || e != 0 {
			t.Fatalf("New(%d) = %v, %d", n, d, e)
		}
		if got := d.Sectors(); got != n {
			t.Errorf("New(%d): Sectors() = %d", n, got)
		}
		is(t, d, 0, true)
		for _, at := range []int{0, n / 2, n - 1} {
			has(t, d, at, of(0))
		}
		for _, at := range []int{0, n / 2, n - 1} {
			fails(t, d.Write(at, of(7)), 0)
			has(t, d, at, of(7))
		}
		for _, at := range []int{math.MinInt, -65536, -1, n, n + 1, 65536, math.MaxInt} {
			if b, e := d.Read(at); len(b) != 0 || e != 130 {
				t.Errorf("New(%d): Read(%d) = %x, %d", n, at, b, e)
			}
			fails(t, d.Write(at, of(7)), 130)
		}
	}
}

// TestNewRefuses: what is no number of sectors makes no disk.
func TestNewRefuses(t *testing.T) {
	for _, n := range []int{math.MinInt, math.MinInt32, -65536, -64, -2, -1, 0, 65537, 65536 + 64, 1 << 17, math.MaxInt32, 1<<32 + 1, math.MaxInt} {
		if d, e := New(n); d != nil || e != 2 {
			t.Errorf("New(%d) = %v, %d", n, d, e)
		}
	}
}

// TestAllNoughts: each sector of a new disk, and it has 64 bytes.
func TestAllNoughts(t *testing.T) {
	for _, n := range []int{1, 5, 65536} {
		d := made(t, n)
		for at := range n {
			has(t, d, at, make([]byte, 64))
		}
	}
}

// notGiven answers disks that New did not give.
func notGiven() map[string]*Disk {
	refused, _ := New(0)
	return map[string]*Disk{"nil": nil, "zero": {}, "new": new(Disk), "refused": refused}
}

// TestNotGiven: each call of a disk that New did not give, in different orders, whatever else is wrong.
func TestNotGiven(t *testing.T) {
	calls := []func(d *Disk){
		func(d *Disk) { d.Start() },
		func(d *Disk) { d.Arm(0) },
		func(d *Disk) { d.Arm(-1) },
		func(d *Disk) { d.Crash(nil) },
		func(d *Disk) { d.Crash([]int{1, 2, 3}) },
		func(d *Disk) { d.Write(0, of(1)) },
		func(d *Disk) { d.Flush() },
	}
	for first := range calls {
		for name, d := range notGiven() {
			for i := range calls {
				calls[(first+i)%len(calls)](d)
				answersNothing(t, name, d)
			}
		}
	}
}

// answersNothing asks a disk that New did not give for all.
func answersNothing(t *testing.T, name string, d *Disk) {
	t.Helper()
	if d.Sectors() != 0 || d.Waiting() != 0 || d.Alive() {
		t.Fatalf("%s: %d sectors, %d wait, power %v", name, d.Sectors(), d.Waiting(), d.Alive())
	}
	for _, at := range []int{-1, 0, 1, 65536} {
		if b, e := d.Read(at); len(b) != 0 || e != api.ErrNil {
			t.Fatalf("%s: Read(%d) = %x, %d", name, at, b, e)
		}
		for _, b := range [][]byte{nil, of(1)[:63], of(1), append(of(1), 1)} {
			if e := d.Write(at, b); e != 1 {
				t.Fatalf("%s: Write(%d, %d bytes) = %d", name, at, len(b), e)
			}
		}
	}
	if e := d.Flush(); e != 1 {
		t.Fatalf("%s: Flush() = %d", name, e)
	}
}
