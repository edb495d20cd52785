package wal

import (
	"bytes"
	"fmt"
	"math/rand"
	"slices"
	"testing"

	"fairlead/api"
	"fairlead/disk"
	"fairlead/record"
)

// What the chapter says of how much room there is, and layer 14's of records.
const (
	around    = 7 // bytes of a record without data
	mostBytes = 8192
)

// leastRoom is how much room an empty log has at least.
func leastRoom(n int) int {
	return 64*(n/2) - 128
}

// op is a call that has records kept: an Append of the one there is, or a Reset.
type op struct {
	reset bool
	l     []api.Record
}

func appends(r api.Record) op { return op{false, []api.Record{r}} }

func resets(l ...api.Record) op { return op{true, l} }

func (o op) do(w *Wal) api.Errno {
	if o.reset {
		return w.Reset(o.l)
	}
	return w.Append(o.l[0])
}

func (o op) String() string {
	if o.reset {
		return "Reset" + tell(o.l)
	}
	return "Append" + tell(o.l)
}

// after is the model: what records there are behind the call, if it is not refused.
func (o op) after(l []api.Record) []api.Record {
	if o.reset {
		return slices.Clone(o.l)
	}
	return append(slices.Clone(l), o.l...)
}

// sizes answers how many bytes records have, and whether all of them may be.
func sizes(l []api.Record) (int, bool) {
	n := 0
	for _, r := range l {
		if r.Type < 1 || r.Type > 255 || len(r.Data) > mostBytes {
			return 0, false
		}
		n += around + len(r.Data)
	}
	return n, true
}

// errno is the model: what the call answers where the log has so much room, and that much when it is empty, and the disk power.
func (o op) errno(room, empty int) api.Errno {
	n, may := sizes(o.l)
	switch {
	case !may:
		return api.ErrRecord
	case !o.reset && n > room, o.reset && n > empty:
		return api.ErrFull
	}
	return api.OK
}

// tell names records.
func tell(l []api.Record) string {
	s := "["
	for _, r := range l {
		s += fmt.Sprintf(" %d:%x", r.Type, r.Data[:min(len(r.Data), 12)])
		if len(r.Data) > 12 {
			s += fmt.Sprintf("..%d", len(r.Data))
		}
	}
	return s + " ]"
}

// alike tells whether records are the same ones.
func alike(a, b []api.Record) bool {
	return slices.EqualFunc(a, b, func(x, y api.Record) bool { return x.Type == y.Type && bytes.Equal(x.Data, y.Data) })
}

// rec answers a record of so many bytes that rise from the first.
func rec(kind, n int, first byte) api.Record {
	return api.Record{Type: kind, Data: rising(n, first)}
}

func rising(n int, first byte) []byte {
	b := make([]byte, n)
	for i := range b {
		b[i] = first + byte(i)
	}
	return b
}

// deep answers copies of records that share nothing with them.
func deep(l []api.Record) []api.Record {
	c := []api.Record{}
	for _, r := range l {
		c = append(c, api.Record{Type: r.Type, Data: bytes.Clone(r.Data)})
	}
	return c
}

func made(t *testing.T, n int) *disk.Disk {
	t.Helper()
	d, e := disk.New(n)
	if e != 0 {
		t.Fatalf("disk.New(%d): %d", n, e)
	}
	return d
}

// opened opens a log that there is.
func opened(t *testing.T, d *disk.Disk, from, n int) (*Wal, []api.Record) {
	t.Helper()
	w, l, e := Open(d, from, n)
	if w == nil || e != 0 {
		t.Fatalf("Open(%d, %d) = %v, %d", from, n, w, e)
	}
	if got := w.Records(); !alike(got, l) {
		t.Fatalf("Open answers %s, Records %s", tell(l), tell(got))
	}
	return w, l
}

func is(t *testing.T, got, want api.Errno) {
	if got != want {
		t.Helper()
		t.Fatalf("answered %d, not %d", got, want)
	}
}

// has asks what records a log has.
func has(t *testing.T, w *Wal, want []api.Record) {
	if got := w.Records(); !alike(got, want) {
		t.Helper()
		t.Fatalf("has %s, not %s", tell(got), tell(want))
	}
}

// anew asks that the log opened anew is as it was.
func anew(t *testing.T, d *disk.Disk, from, n int, w *Wal) *Wal {
	t.Helper()
	v, l := opened(t, d, from, n)
	if want := w.Records(); !alike(l, want) {
		t.Fatalf("opened anew: %s, not %s", tell(l), tell(want))
	}
	if got, want := v.Room(), w.Room(); got != want {
		t.Fatalf("opened anew: room %d, not %d", got, want)
	}
	return v
}

// sectors reads all of a disk that has power.
func sectors(t *testing.T, d *disk.Disk) []string {
	t.Helper()
	l := []string{}
	for at := range d.Sectors() {
		b, e := d.Read(at)
		is(t, e, 0)
		l = append(l, string(b))
	}
	return l
}

// others are the sectors of a disk that are none of the log's.
func others(t *testing.T, d *disk.Disk, from, n int) []string {
	t.Helper()
	return slices.Delete(sectors(t, d), from, from+n)
}

// fill writes bytes into sectors from one on, and flushes.
func fill(t *testing.T, d *disk.Disk, at int, b []byte) {
	t.Helper()
	for i := 0; i < len(b); i += 64 {
		s := make([]byte, 64)
		copy(s, b[i:])
		is(t, d.Write(at+i/64, s), 0)
	}
	is(t, d.Flush(), 0)
}

// chance answers bytes of chance.
func chance(r *rand.Rand, n int) []byte {
	b := make([]byte, n)
	r.Read(b)
	return b
}

// framed writes records in a row.
func framed(t *testing.T, salt uint64, l ...api.Record) []byte {
	t.Helper()
	b := []byte{}
	for _, r := range l {
		f, e := record.Frame(salt, r)
		is(t, e, 0)
		b = append(b, f...)
	}
	return b
}

// does holds a call against the model: what it answers, what the log has then, and how much room.
func does(t *testing.T, w *Wal, o op, n int, empty int) api.Errno {
	t.Helper()
	was, room := w.Records(), w.Room()
	e := o.do(w)
	if want := o.errno(room, empty); e != want {
		t.Fatalf("%s with room %d = %d, not %d", o, room, e, want)
	}
	if e != 0 {
		has(t, w, was)
		if got := w.Room(); got != room {
			t.Fatalf("%s: refused, but the room was %d and is %d", o, room, got)
		}
		return e
	}
	has(t, w, o.after(was))
	size, _ := sizes(o.l)
	least := room - size
	if o.reset {
		least = empty - size
	}
	if got := w.Room(); got < least {
		t.Fatalf("%s: room %d, not at least %d", o, got, least)
	}
	return e
}

// TestExample: the chapter's example.
func TestExample(t *testing.T) {
	d := made(t, 8)
	w, l := opened(t, d, 0, 8)
	if len(l) != 0 {
		t.Fatalf("a fresh disk has %s", tell(l))
	}
	r := api.Record{Type: 1, Data: []byte{5}}
	is(t, w.Append(r), 0)
	_, l = opened(t, d, 0, 8)
	if !alike(l, []api.Record{r}) {
		t.Fatalf("opened anew: %s", tell(l))
	}
}
