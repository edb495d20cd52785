package disk

import (
	"bytes"
	"fmt"
	"math/rand"
	"slices"
	"testing"
)

// R3, R4, R6

// spoil changes all of a list, what is behind its end, too.
func spoil[T any](l []T, x T) {
	l = l[:cap(l)]
	for i := range l {
		l[i] = x
	}
}

// TestReadIsNewMemory: what becomes of an answer changes nothing, and what is done later changes no answer; of a sector with nothing that waits, with one write and with several, flushed or not.
func TestReadIsNewMemory(t *testing.T) {
	for writes := range 4 {
		for _, flushed := range []bool{false, true} {
			p := newPair(t, 2)
			for i := range writes {
				p.write(1, rising(byte(50*i+1)))
			}
			if flushed {
				p.flush()
			}
			first, _ := p.d.Read(1)
			second, _ := p.d.Read(1)
			if len(first) != 64 {
				t.Fatalf("Read(1) has %d bytes", len(first))
			}
			was := bytes.Clone(second)
			spoil(first, 77)
			_ = append(first, 88)
			if !bytes.Equal(second, was) {
				t.Fatal("two answers are one")
			}
			p.same()
			p.write(1, of(5))
			p.write(0, of(6))
			p.flush()
			p.write(1, of(7))
			p.crash(1)
			p.start()
			if !bytes.Equal(second, was) {
				t.Fatalf("%x was changed to %x", was, second)
			}
			p.same()
		}
	}
}

// TestWrittenIsCopied: what Write was handed stays, and is not kept.
func TestWrittenIsCopied(t *testing.T) {
	for _, when := range []string{"waiting", "flushed", "crashed"} {
		d := made(t, 2)
		room := append(rising(1), "behind"...)
		was := bytes.Clone(room)
		b := room[:64]
		fails(t, d.Write(0, b), 0)
		if when == "waiting" {
			spoil(b, 9)
		}
		has(t, d, 0, rising(1))
		switch when {
		case "flushed":
			fails(t, d.Flush(), 0)
		case "crashed":
			d.Crash([]int{1})
			d.Start()
		}
		if when != "waiting" && !bytes.Equal(room, was) {
			t.Fatalf("%s: %x was changed to %x", when, was, room)
		}
		spoil(b, 9)
		has(t, d, 0, rising(1))
		fails(t, d.Flush(), 0)
		has(t, d, 0, rising(1))
		has(t, d, 1, of(0))
	}
}

// TestOneListManyWrites: the same memory, filled anew for each write.
func TestOneListManyWrites(t *testing.T) {
	d := made(t, 5)
	b := make([]byte, 64)
	for at := range 5 {
		copy(b, rising(byte(40*at)))
		fails(t, d.Write(at, b), 0)
	}
	for range 2 {
		for at := range 5 {
			has(t, d, at, rising(byte(40*at)))
		}
		fails(t, d.Flush(), 0)
	}
}

// TestKeepStays: what Crash was handed is not changed, and what is behind its end is nobody's.
func TestKeepStays(t *testing.T) {
	for n := range 5 {
		p := newPair(t, 4)
		for at := range 4 {
			p.write(at, rising(byte(at+1)))
		}
		room := []int{1, 2, 3, 1, 1, 1, 1}
		was := slices.Clone(room)
		p.crash(room[:n]...)
		if !slices.Equal(room, was) {
			t.Fatalf("%v was changed to %v", was, room)
		}
		spoil(room, 1)
		p.same()
		p.start()
		p.same()
		for at := n; at < 4; at++ {
			has(t, p.d, at, of(0))
		}
	}
}

// TestRefusedChangesNothing: of each call that is refused, with what waits and what is armed.
func TestRefusedChangesNothing(t *testing.T) {
	for n := range 3 {
		for _, armed := range []int{-1, 1, 2} {
			p := newPair(t, 2)
			for i := range n {
				p.write(i%2, rising(byte(90*i)))
			}
			p.arm(armed)
			before := fmt.Sprint(*p.d)
			p.write(-1, of(1))
			p.write(2, of(1))
			p.write(0, nil)
			p.write(1, of(1)[:63])
			p.write(1, append(of(1), 1))
			p.reads(-1)
			p.reads(2)
			if after := fmt.Sprint(*p.d); after != before {
				t.Fatalf("%s was changed to %s", before, after)
			}
			p.same()
			p.crash(1, 2)
			before = fmt.Sprint(*p.d)
			p.write(-1, of(1))
			p.write(0, of(1))
			p.write(0, nil)
			p.flush()
			p.reads(0)
			if after := fmt.Sprint(*p.d); after != before {
				t.Fatalf("%s was changed to %s", before, after)
			}
			p.start()
			p.same()
		}
	}
}

// TestAskedTwice: asking changes nothing.
func TestAskedTwice(t *testing.T) {
	p := newPair(t, 3)
	p.arm(3)
	for i := range 4 {
		for range 5 {
			p.same()
		}
		p.write(i%3, rising(byte(i)))
	}
	for range 5 {
		p.same()
	}
}

// TestTwoDisks know nothing of one another.
func TestTwoDisks(t *testing.T) {
	c := rand.New(rand.NewSource(134))
	for range 30 {
		ps := []*pair{newPair(t, 3), newPair(t, 3), newPair(t, 5)}
		for range 100 {
			ps[c.Intn(len(ps))].step(c)
			for _, p := range ps {
				p.same()
			}
		}
	}
}

// TestNothingStays: what waited, done or not, is kept nowhere, not behind the row's end either.
func TestNothingStays(t *testing.T) {
	settles := map[string]func(d *Disk){
		"Flush":      func(d *Disk) { d.Flush() },
		"Crash":      func(d *Disk) { d.Crash(nil) },
		"Crash of 1": func(d *Disk) { d.Crash([]int{1, 2}) },
	}
	for name, f := range settles {
		d := made(t, 2)
		for i := range 5 {
			fails(t, d.Write(i%2, rising(byte(i+1))), 0)
		}
		f(d)
		for i, w := range d.waits[:cap(d.waits)] {
			if w != (write{}) {
				t.Errorf("%s leaves write %d: %v", name, i, w)
			}
		}
	}
}
