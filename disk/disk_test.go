package disk

import (
	"bytes"
	"slices"
	"strings"
	"testing"

	"fairlead/api"
)

// modelWrite is a write that waits, in the model.
type modelWrite struct {
	at   int
	text string
}

// modelDisk is a second model of a disk: sectors are texts, what waits is done anew whenever it is asked for, byte by byte, and Arm is told as a place in the row of all writes and flushes.
type modelDisk struct {
	kept []string
	row  []modelWrite
	dead bool
	done int // writes and flushes that found power
	dies int // the power goes when so many were done; below 0: never
}

func newModel(n int) *modelDisk {
	return &modelDisk{kept: slices.Repeat([]string{strings.Repeat("\x00", 64)}, n), dies: -1}
}

// after answers the sectors when write i is done as how tells.
func (m *modelDisk) after(how func(i int) int) []string {
	l := slices.Clone(m.kept)
	for i, w := range m.row {
		was := l[w.at]
		b := make([]byte, 64)
		for j := range b {
			switch k := how(i); {
			case k == 1, k == 2 && j < 32, k == 3 && j >= 32:
				b[j] = w.text[j]
			default:
				b[j] = was[j]
			}
		}
		l[w.at] = string(b)
	}
	return l
}

func ofAll(int) int { return 1 }

func (m *modelDisk) read(at int) (string, api.Errno) {
	if m.dead {
		return "", api.ErrDead
	}
	if at < 0 || at >= len(m.kept) {
		return "", api.ErrSector
	}
	return m.after(ofAll)[at], 0
}

// takes counts a write or a flush, and tells whether it found power.
func (m *modelDisk) takes() bool {
	if m.dies == m.done {
		m.dead = true
		return false
	}
	m.done++
	return true
}

func (m *modelDisk) write(at int, b []byte) api.Errno {
	switch {
	case m.dead:
		return api.ErrDead
	case at < 0 || at >= len(m.kept):
		return api.ErrSector
	case len(b) != 64:
		return api.ErrArg
	case !m.takes():
		return api.ErrDead
	}
	m.row = append(m.row, modelWrite{at, string(b)})
	return 0
}

func (m *modelDisk) flush() api.Errno {
	if m.dead || !m.takes() {
		return api.ErrDead
	}
	m.kept, m.row = m.after(ofAll), nil
	return 0
}

func (m *modelDisk) arm(n int) {
	m.dies = -1
	if n >= 0 && m.done+n >= 0 { // what is past the greatest number is never reached
		m.dies = m.done + n
	}
}

func (m *modelDisk) crash(keep []int) {
	m.kept = m.after(func(i int) int {
		if i < len(keep) {
			return keep[i]
		}
		return 0
	})
	m.row, m.dead, m.dies = nil, true, -1
}

func (m *modelDisk) start() {
	m.dead, m.dies = false, -1
}

// pair is a disk and its model, of which both are told the same.
type pair struct {
	t *testing.T
	d *Disk
	m *modelDisk
}

func newPair(t *testing.T, n int) *pair {
	t.Helper()
	d, e := New(n)
	if d == nil || e != 0 {
		t.Fatalf("New(%d) = %v, %d", n, d, e)
	}
	return &pair{t, d, newModel(n)}
}

func (p *pair) write(at int, b []byte) {
	p.t.Helper()
	if got, want := p.d.Write(at, b), p.m.write(at, b); got != want {
		p.t.Fatalf("Write(%d, %d bytes) = %d, not %d", at, len(b), got, want)
	}
}

func (p *pair) flush() {
	p.t.Helper()
	if got, want := p.d.Flush(), p.m.flush(); got != want {
		p.t.Fatalf("Flush() = %d, not %d", got, want)
	}
}

func (p *pair) arm(n int) {
	p.d.Arm(n)
	p.m.arm(n)
}

func (p *pair) crash(keep ...int) {
	p.d.Crash(keep)
	p.m.crash(keep)
}

func (p *pair) start() {
	p.d.Start()
	p.m.start()
}

// counts asks for the numbers alone.
func (p *pair) counts() {
	p.t.Helper()
	if got, want := p.d.Sectors(), len(p.m.kept); got != want {
		p.t.Fatalf("Sectors() = %d, not %d", got, want)
	}
	if got, want := p.d.Alive(), !p.m.dead; got != want {
		p.t.Fatalf("Alive() = %v, not %v", got, want)
	}
	if got, want := p.d.Waiting(), len(p.m.row); got != want {
		p.t.Fatalf("Waiting() = %d, not %d", got, want)
	}
}

// reads asks for one sector.
func (p *pair) reads(at int) {
	p.t.Helper()
	b, got := p.d.Read(at)
	if text, want := p.m.read(at); string(b) != text || got != want {
		p.t.Fatalf("Read(%d) = %x, %d, not %x, %d", at, b, got, text, want)
	}
}

// same asks for all that can be asked.
func (p *pair) same() {
	p.t.Helper()
	p.counts()
	for at := -1; at <= len(p.m.kept); at++ {
		p.reads(at)
	}
}

// of answers a sector of one byte.
func of(c byte) []byte {
	return bytes.Repeat([]byte{c}, 64)
}

// rising answers a sector whose bytes are all others, from c on.
func rising(c byte) []byte {
	b := make([]byte, 64)
	for i := range b {
		b[i] = c + byte(i)
	}
	return b
}

// halves answers a sector whose halves are of one byte each.
func halves(a, b byte) []byte {
	return append(of(a)[:32:32], of(b)[:32]...)
}

// has asks for what a sector has.
func has(t *testing.T, d *Disk, at int, want []byte) {
	t.Helper()
	if b, e := d.Read(at); e != 0 || !bytes.Equal(b, want) {
		t.Fatalf("Read(%d) = %x, %d, not %x", at, b, e, want)
	}
}

// is asks for the numbers.
func is(t *testing.T, d *Disk, waiting int, alive bool) {
	t.Helper()
	if d.Waiting() != waiting || d.Alive() != alive {
		t.Fatalf("%d wait, power %v; not %d, %v", d.Waiting(), d.Alive(), waiting, alive)
	}
}

// fails asks for an error.
func fails(t *testing.T, got, want api.Errno) {
	t.Helper()
	if got != want {
		t.Fatalf("%d, not %d", got, want)
	}
}

// made answers a disk of n sectors.
func made(t *testing.T, n int) *Disk {
	t.Helper()
	d, e := New(n)
	if d == nil || e != 0 {
		t.Fatalf("New(%d) = %v, %d", n, d, e)
	}
	return d
}

// TestExample is the chapter's.
func TestExample(t *testing.T) {
	d := made(t, 4)
	fails(t, d.Write(0, rising(1)), 0)
	fails(t, d.Flush(), 0)
	fails(t, d.Write(0, rising(101)), 0)
	d.Crash(nil)
	d.Start()
	has(t, d, 0, rising(1))
	is(t, d, 0, true)
}
