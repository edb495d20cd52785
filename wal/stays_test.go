package wal

import (
	"bytes"
	"slices"
	"testing"

	"fairlead/api"
	"fairlead/disk"
)

// R3, R4, R6

// spoil changes all of records, what is behind the ends of their lists, too.
func spoil(l []api.Record) {
	l = l[:cap(l)]
	for i := range l {
		b := l[i].Data[:cap(l[i].Data)]
		for j := range b {
			b[j] ^= 0x55
		}
		l[i] = api.Record{Type: 200, Data: []byte("spoilt")}
	}
}

// roomy answers records whose lists have room behind their ends.
func roomy(l ...api.Record) []api.Record {
	c := make([]api.Record, 0, len(l)+3)
	for _, r := range l {
		c = append(c, api.Record{Type: r.Type, Data: append(make([]byte, 0, len(r.Data)+9), r.Data...)})
	}
	return c
}

// TestAnswersAreNewMemory: what becomes of the records that Open and Records answer changes neither the log nor another answer; and what is done later changes no answer.
func TestAnswersAreNewMemory(t *testing.T) {
	l := []api.Record{rec(1, 10, 1), rec(2, 0, 0), rec(3, 80, 3)}
	for _, reset := range []bool{false, true} {
		d := made(t, 20)
		w, _ := opened(t, d, 0, 20)
		for i := range l {
			is(t, appends(l[i]).do(w), 0)
		}
		if reset {
			is(t, w.Reset(l), 0)
		}
		v, first, e := Open(d, 0, 20)
		is(t, e, 0)
		second, third, kept := v.Records(), v.Records(), w.Records()
		if len(first) != 3 || len(second) != 3 || len(kept) != 3 {
			t.Fatalf("%s, %s, %s", tell(first), tell(second), tell(kept))
		}
		for i, spoilt := range [][]api.Record{first, second, kept} {
			spoil(spoilt)
			_ = append(spoilt[:1], rec(99, 1, 1))
			has(t, v, l)
			has(t, w, l)
			if !alike(third, l) {
				t.Fatalf("answer %d shares with another: %s", i, tell(third))
			}
			anew(t, d, 0, 20, v)
		}
		is(t, v.Append(rec(4, 4, 4)), 0)
		is(t, v.Reset([]api.Record{rec(5, 5, 5)}), 0)
		is(t, v.Append(rec(6, 6, 6)), 0)
		if !alike(third, l) {
			t.Fatalf("an answer was changed: %s", tell(third))
		}
	}
}

// TestListsOfOneAnswer: no two lists of one answer share memory, not what is behind their ends either.
func TestListsOfOneAnswer(t *testing.T) {
	d := made(t, 20)
	w, _ := opened(t, d, 0, 20)
	one := rec(1, 9, 1)
	is(t, w.Reset([]api.Record{one, one, one}), 0)
	_, l, _ := Open(d, 0, 20)
	for _, l := range [][]api.Record{l, w.Records()} {
		for i := range l {
			b := append(l[i].Data, 1, 2, 3, 4, 5, 6, 7, 8)
			for j := range b {
				b[j] = 0xee
			}
			for j := i + 1; j < len(l); j++ {
				if !bytes.Equal(l[j].Data, one.Data) {
					t.Fatalf("records %d and %d share", i, j)
				}
			}
		}
	}
	has(t, w, []api.Record{one, one, one})
}

// TestHandedInStays: what Append and Reset are handed is not changed, also what is behind its end, and is not kept.
func TestHandedInStays(t *testing.T) {
	want := []api.Record{rec(1, 10, 1), rec(2, 70, 2)}
	for _, reset := range []bool{false, true} {
		for _, k := range []int{0, 1, 5, 100} { // writes and flushes that find power
			d := made(t, 20)
			w, _ := opened(t, d, 0, 20)
			is(t, w.Append(rec(9, 9, 9)), 0)
			l := roomy(want...)
			was := deep(l[:cap(l)])
			d.Arm(k)
			var e api.Errno
			if reset {
				e = w.Reset(l)
			} else {
				e = max(w.Append(l[0]), w.Append(l[1]))
			}
			if !alike(l[:cap(l)], was) || len(bytes.Trim(l[0].Data[:cap(l[0].Data)][10:], "\x00")) != 0 {
				t.Fatalf("changed to %s", tell(l[:cap(l)]))
			}
			spoil(l)
			if e == 0 {
				all := want
				if !reset {
					all = append([]api.Record{rec(9, 9, 9)}, want...)
				}
				has(t, w, all)
				anew(t, d, 0, 20, w)
			}
		}
	}
}

// TestOneMemoryManyRecords: the same memory, filled anew for each record.
func TestOneMemoryManyRecords(t *testing.T) {
	d := made(t, 20)
	w, _ := opened(t, d, 0, 20)
	r := rec(1, 30, 1)
	want := []api.Record{}
	for i := range 6 {
		r.Type = 1 + i
		copy(r.Data, rising(30, byte(i*40)))
		is(t, w.Append(r), 0)
		want = append(want, rec(1+i, 30, byte(i*40)))
		has(t, w, want)
	}
	same := slices.Repeat([]api.Record{r}, 4)
	is(t, w.Reset(same), 0)
	spoil(same[:1])
	has(t, w, slices.Repeat([]api.Record{rec(6, 30, 200)}, 4))
	anew(t, d, 0, 20, w)
}

// TestRecordsHandedBack: a log's own answer is handed to it again.
func TestRecordsHandedBack(t *testing.T) {
	d := made(t, 20)
	w, _ := opened(t, d, 0, 20)
	l := []api.Record{rec(1, 10, 1), rec(2, 20, 2), rec(3, 30, 3)}
	is(t, w.Reset(l), 0)
	for range 5 {
		is(t, w.Reset(w.Records()), 0)
		has(t, w, l)
	}
	is(t, w.Reset(w.Records()[1:]), 0)
	has(t, w, l[1:])
	is(t, w.Append(w.Records()[0]), 0)
	has(t, anew(t, d, 0, 20, w), append(slices.Clone(l[1:]), l[1]))
}

// TestNilAndEmpty: nil and empty lists are the same.
func TestNilAndEmpty(t *testing.T) {
	images := [][]string{}
	for _, l := range [][]api.Record{nil, {}, make([]api.Record, 0, 4)} {
		for _, b := range [][]byte{nil, {}, make([]byte, 0, 4)} {
			d := made(t, 8)
			w, _ := opened(t, d, 0, 8)
			is(t, w.Append(rec(1, 1, 1)), 0)
			is(t, w.Reset(l), 0)
			is(t, w.Append(api.Record{Type: 3, Data: b}), 0)
			has(t, w, []api.Record{{Type: 3}})
			images = append(images, sectors(t, d))
		}
	}
	for _, image := range images[1:] {
		if !slices.Equal(image, images[0]) {
			t.Fatal("nil and empty lists differ")
		}
	}
}

// TestSameAgain: the same calls on the same disks answer the same, and leave the same.
func TestSameAgain(t *testing.T) {
	images := []string{}
	for range 3 {
		d := made(t, 12)
		w, _ := opened(t, d, 1, 10)
		for _, row := range plainRows() {
			for _, o := range row {
				o.do(w)
			}
			for _, s := range sectors(t, d) {
				images = append(images, s)
			}
		}
	}
	third := len(images) / 3
	if !slices.Equal(images[:third], images[third:2*third]) || !slices.Equal(images[:third], images[2*third:]) {
		t.Fatal("the same calls leave other sectors")
	}
}

// TestDeadOneAlone: of logs of several disks, and of one, that one answers ErrDead which found no power.
func TestDeadOneAlone(t *testing.T) {
	one, other := made(t, 16), made(t, 16)
	logs := []*Wal{}
	for _, d := range []*disk.Disk{one, other} {
		for _, from := range []int{0, 8} {
			w, _ := opened(t, d, from, 8)
			is(t, w.Append(rec(1, 5, 1)), 0)
			logs = append(logs, w)
		}
	}
	one.Arm(0)
	is(t, logs[0].Append(rec(2, 5, 2)), api.ErrDead)
	one.Start()
	for i, w := range logs {
		want := api.OK
		if i == 0 {
			want = api.ErrDead
		}
		is(t, w.Append(rec(2, 5, 2)), want)
		is(t, w.Reset([]api.Record{rec(3, 5, 3)}), want)
		if i > 0 {
			has(t, w, []api.Record{rec(3, 5, 3)})
		}
	}
	w, l := opened(t, one, 0, 8)
	if !among(l, [][]api.Record{{rec(1, 5, 1)}, {rec(1, 5, 1), rec(2, 5, 2)}}) {
		t.Fatalf("%s", tell(l))
	}
	is(t, w.Append(rec(4, 5, 4)), 0)
	is(t, logs[0].Append(rec(4, 5, 4)), api.ErrDead)
}
