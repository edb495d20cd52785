package wal

import (
	"math"
	"math/rand"
	"slices"
	"testing"

	"fairlead/api"
	"fairlead/disk"
)

// P15.1

// refused asks that Open answers an error and nothing besides.
func refused(t *testing.T, d *disk.Disk, from, n int, want api.Errno) {
	t.Helper()
	if w, l, e := Open(d, from, n); w != nil || len(l) != 0 || e != want {
		t.Fatalf("Open(%d, %d) = %v, %s, %d, not %d", from, n, w, tell(l), e, want)
	}
}

// TestOpenWhere: each from and n of some disks, and those near the ends of numbers.
func TestOpenWhere(t *testing.T) {
	ends := []int{math.MinInt, math.MinInt + 1, -1 << 32, 1 << 32, math.MaxInt - 4, math.MaxInt - 3, math.MaxInt - 1, math.MaxInt}
	for _, size := range []int{1, 3, 4, 5, 8, 13} {
		d := made(t, size)
		numbers := slices.Clone(ends)
		for i := -6; i <= size+6; i++ {
			numbers = append(numbers, i)
		}
		for _, from := range numbers {
			for _, n := range numbers {
				there := 0 // how many of the sectors are the disk's
				for at := range size {
					if from > -1000 && at >= from && at-from < n {
						there++
					}
				}
				if n < 4 || there != n {
					refused(t, d, from, n, api.ErrArg)
					continue
				}
				if _, l := opened(t, d, from, n); len(l) != 0 {
					t.Fatalf("Open(%d, %d) of noughts: %s", from, n, tell(l))
				}
			}
		}
	}
}

// TestOpenNoDisk: a disk that is nil, or none, has no sectors.
func TestOpenNoDisk(t *testing.T) {
	for _, d := range []*disk.Disk{nil, {}} {
		for _, from := range []int{-1, 0, 1, math.MaxInt} {
			for _, n := range []int{-1, 0, 3, 4, 5, 8, math.MaxInt} {
				refused(t, d, from, n, api.ErrArg)
			}
		}
	}
}

// TestOpenNoPower: a disk without power, and what is told ahead of that.
func TestOpenNoPower(t *testing.T) {
	for _, written := range []bool{false, true} {
		d := made(t, 9)
		r := rec(1, 30, 3)
		if written {
			w, _ := opened(t, d, 1, 8)
			is(t, w.Append(r), 0)
		}
		d.Crash(nil)
		for range 2 {
			refused(t, d, 1, 8, api.ErrDead)
			refused(t, d, 0, 4, api.ErrDead)
			refused(t, d, 0, 3, api.ErrArg)
			refused(t, d, 2, 8, api.ErrArg)
			refused(t, d, -1, 8, api.ErrArg)
		}
		d.Start()
		_, l := opened(t, d, 1, 8)
		if written != alike(l, []api.Record{r}) {
			t.Fatalf("behind the stop: %s", tell(l))
		}
	}
}

// TestOpenLosesPower: with writes that wait, whether they are the log's own or another's, Open answers a log or ErrDead, wherever the power goes, and what it answered is there behind the next stop.
func TestOpenLosesPower(t *testing.T) {
	r := rec(1, 30, 3)
	for _, from := range []int{0, 4} {
		for k := range 8 {
			d := made(t, 12)
			w, _ := opened(t, d, 4, 8)
			is(t, w.Append(r), 0)
			all := sectors(t, d)
			is(t, d.Write(0, []byte(all[4])), 0)
			is(t, d.Write(11, []byte(all[5])), 0)
			d.Arm(k)
			w, l, e := Open(d, from, 8)
			if e != 0 && e != api.ErrDead || (e == 0) != (w != nil) || e != 0 && len(l) != 0 {
				t.Fatalf("from %d: %v, %s, %d", from, w, tell(l), e)
			}
			died := !d.Alive()
			if (e == 0) == died {
				t.Fatalf("answered %d of a disk that has died: %t", e, died)
			}
			d.Crash(nil)
			d.Start()
			_, behind := opened(t, d, from, 8)
			if e == 0 && !alike(behind, l) || from == 4 && !alike(behind, []api.Record{r}) {
				t.Fatalf("from %d, power gone at %d: %s, not %s", from, k, tell(behind), tell(l))
			}
		}
	}
}

// TestOpenedWaitsForNothing: what Open answers out of writes that wait is there behind each stop, and so is what was appended to it.
func TestOpenedWaitsForNothing(t *testing.T) {
	old := made(t, 8)
	w, _ := opened(t, old, 0, 8)
	first, second := rec(1, 60, 1), rec(2, 60, 100)
	is(t, w.Append(first), 0)
	all := sectors(t, old)
	for k := range 9 {
		d := made(t, 8)
		for at, s := range all {
			is(t, d.Write(at, []byte(s)), 0)
		}
		w, l := opened(t, d, 0, 8)
		if !alike(l, []api.Record{first}) {
			t.Fatalf("of what waits: %s", tell(l))
		}
		d.Arm(k)
		e := w.Append(second)
		d.Crash(nil)
		d.Start()
		_, l = opened(t, d, 0, 8)
		if !alike(l, []api.Record{first}) && !alike(l, []api.Record{first, second}) || e == 0 && len(l) != 2 {
			t.Fatalf("power gone at %d, answered %d: %s", k, e, tell(l))
		}
	}
}

// TestOpenChangesNothing: opened however often, all sectors stay, and nothing waits.
func TestOpenChangesNothing(t *testing.T) {
	r := rand.New(rand.NewSource(1))
	for i := range 40 {
		d := made(t, 13)
		fill(t, d, 0, chance(r, 13*64))
		if i%2 == 0 {
			w, _ := opened(t, d, 2, 9)
			is(t, w.Append(rec(4, i, 1)), 0)
		}
		was := others(t, d, 2, 9)
		w, l := opened(t, d, 2, 9)
		for range 3 {
			w = anew(t, d, 2, 9, w)
			has(t, w, l)
		}
		if !slices.Equal(others(t, d, 2, 9), was) {
			t.Fatal("Open touched other sectors")
		}
		if d.Waiting() != 0 {
			t.Fatalf("%d writes wait behind Open", d.Waiting())
		}
	}
}

// TestOpenEmptyRoom: the room of an empty log, for each n, wherever it lies.
func TestOpenEmptyRoom(t *testing.T) {
	d := made(t, 300)
	for n := 4; n <= 290; n++ {
		w, _ := opened(t, d, n%11, n)
		if got := w.Room(); got < leastRoom(n) || got > 64*n {
			t.Fatalf("n %d: room %d", n, got)
		}
		anew(t, d, n%11, n, w)
	}
	d = made(t, api.MaxDisk)
	for _, n := range []int{api.MaxDisk - 1, api.MaxDisk} {
		w, _ := opened(t, d, api.MaxDisk-n, n)
		if got := w.Room(); got < leastRoom(n) || got > 64*n {
			t.Fatalf("n %d: room %d", n, got)
		}
	}
}

// TestNoWal: a Wal that is nil, or that Open did not give, answers zeros and ErrNil, and stays what it is.
func TestNoWal(t *testing.T) {
	zero := &Wal{}
	for _, w := range []*Wal{nil, zero, new(Wal)} {
		for range 2 {
			for _, r := range []api.Record{{}, rec(1, 1, 1), rec(256, 0, 0), rec(1, mostBytes+1, 0)} {
				is(t, w.Append(r), api.ErrNil)
				is(t, w.Reset([]api.Record{r}), api.ErrNil)
			}
			is(t, w.Reset(nil), api.ErrNil)
			if got := w.Room(); got != 0 {
				t.Fatalf("room %d", got)
			}
			if l := w.Records(); len(l) != 0 {
				t.Fatalf("records %s", tell(l))
			}
		}
	}
	if zero.disk != nil || zero.head != (head{}) || len(zero.records) != 0 || zero.dead {
		t.Fatalf("changed to %v", zero)
	}
}

// used asks that a log is a log: a row of calls on it, each held against the model, and opened anew behind each.
func used(t *testing.T, d *disk.Disk, from, n int) {
	t.Helper()
	w, _ := opened(t, d, from, n)
	was := others(t, d, from, n)
	is(t, w.Reset(nil), 0)
	empty := w.Room()
	if empty < leastRoom(n) {
		t.Fatalf("room %d of an empty log in %d sectors", empty, n)
	}
	for i, o := range []op{
		appends(rec(1, 0, 0)), appends(rec(255, 40, 1)), appends(rec(9, 25, 90)), resets(rec(3, 50, 7), rec(4, 6, 6)),
		appends(rec(5, 1, 1)), appends(rec(0, 1, 1)), resets(rec(1, 1, 1), rec(256, 1, 1)), resets(), appends(rec(7, 33, 3)),
		resets(rec(1, 9000, 0)), appends(rec(1, 8000, 0)), resets(rec(8, 64, 8)),
	} {
		does(t, w, o, n, empty)
		if i%2 == 0 {
			w = anew(t, d, from, n, w)
		} else {
			anew(t, d, from, n, w)
		}
	}
	if !slices.Equal(others(t, d, from, n), was) {
		t.Fatal("other sectors were touched")
	}
}

// TestOtherBytes: whatever the sectors hold, there is a log, which is the same one opened anew, and goes as any other.
func TestOtherBytes(t *testing.T) {
	r := rand.New(rand.NewSource(2))
	for _, n := range []int{4, 5, 8, 11} {
		for _, from := range []int{0, 3} {
			for name, b := range otherBytes(t, r, from, n) {
				d := made(t, n+7)
				fill(t, d, 0, chance(r, (n+7)*64))
				fill(t, d, from, b)
				w, l := opened(t, d, from, n)
				if size, may := sizes(l); !may || w.Room() < leastRoom(n)-size {
					t.Fatalf("%s: %s, and room %d", name, tell(l), w.Room())
				}
				anew(t, d, from, n, w)
				used(t, d, from, n)
			}
		}
	}
}

// otherBytes answers what may stand in sectors from on ahead of the first Open, by names.
func otherBytes(t *testing.T, r *rand.Rand, from, n int) map[string][]byte {
	t.Helper()
	all := map[string][]byte{
		"noughts":       make([]byte, 64*n),
		"ones":          slices.Repeat([]byte{255}, 64*n),
		"chance":        chance(r, 64*n),
		"older":         imageOf(t, from, n, from, n),
		"begun earlier": imageOf(t, from, n, from-1, n),
		"begun later":   imageOf(t, from, n, from+1, n),
		"longer":        imageOf(t, from, n, from, n+1),
		"much longer":   imageOf(t, from, n, from, n+4),
		"shorter":       imageOf(t, from, n, from, n-1),
		"begun in it":   imageOf(t, from, n, from+2, n),
	}
	for salt := range uint64(5) {
		row := []byte{}
		for len(row) < 64*n {
			row = append(row, framed(t, salt, rec(1, len(row)%5, 1))...)
		}
		all["records"+string(rune('0'+salt))] = row[:64*n]
	}
	return all
}

// imageOf answers n sectors from from on of a disk that has a log somewhere else, or otherwise.
func imageOf(t *testing.T, from, n, otherFrom, otherN int) []byte {
	t.Helper()
	d := made(t, from+n+8)
	if otherFrom >= 0 && otherN >= 4 {
		w, _ := opened(t, d, otherFrom, otherN)
		is(t, w.Append(rec(1, 3, 1)), 0)
		is(t, w.Reset([]api.Record{rec(2, 10, 2), rec(3, 10, 3)}), 0)
		is(t, w.Append(rec(4, 20, 4)), 0)
	}
	b := []byte{}
	for _, s := range sectors(t, d)[from : from+n] {
		b = append(b, s...)
	}
	return b
}

// TestOlderLog: sectors with the bytes of an older log of the same place are that log.
func TestOlderLog(t *testing.T) {
	d := made(t, 11)
	fill(t, d, 2, imageOf(t, 2, 8, 2, 8))
	_, l := opened(t, d, 2, 8)
	if want := []api.Record{rec(2, 10, 2), rec(3, 10, 3), rec(4, 20, 4)}; !alike(l, want) {
		t.Fatalf("%s, not %s", tell(l), tell(want))
	}
}

// TestOtherLog: a log that lay otherwise, or elsewhere, is none here.
func TestOtherLog(t *testing.T) {
	for _, n := range []int{4, 8, 9} {
		for _, other := range []place{{4, n + 1}, {4, n + 2}, {4, n + 9}, {5, n}, {3, n}, {1 << 10, n}} {
			from := other.from
			d := made(t, from+other.n)
			w, _ := opened(t, d, from, other.n)
			is(t, w.Append(rec(1, 3, 1)), 0)
			all := sectors(t, d)[from:]
			d = made(t, 4+n+9)
			for i := range n {
				is(t, d.Write(4+i, []byte(all[i])), 0)
			}
			if _, l := opened(t, d, 4, n); len(l) != 0 {
				t.Fatalf("%v at 4, %d: %s", other, n, tell(l))
			}
		}
	}
}

// TestLogsSideBySide: logs on one disk, and on several, know nothing of one another.
func TestLogsSideBySide(t *testing.T) {
	r := rand.New(rand.NewSource(3))
	for range 20 {
		disks := []*disk.Disk{made(t, 40), made(t, 40)}
		places := []place{{1, 4}, {5, 9}, {14, 8}, {22, 5}, {27, 13}}
		logs, kept := []*Wal{}, [][]api.Record{}
		for i := range 10 {
			w, l := opened(t, disks[i%2], places[i/2].from, places[i/2].n)
			logs, kept = append(logs, w), append(kept, l)
		}
		for range 60 {
			i := r.Intn(10)
			o := appends(rec(1+r.Intn(255), r.Intn(40), byte(r.Int())))
			if r.Intn(3) == 0 {
				o = resets(slices.Repeat(o.l, r.Intn(3))...)
			}
			if o.do(logs[i]) == 0 {
				kept[i] = o.after(kept[i])
			}
			if r.Intn(4) == 0 {
				disks[i%2].Crash(nil)
				disks[i%2].Start()
			}
			if r.Intn(3) == 0 {
				logs[i], _ = opened(t, disks[i%2], places[i/2].from, places[i/2].n)
			}
			for j, w := range logs {
				has(t, w, kept[j])
			}
		}
		for i, w := range logs {
			anew(t, disks[i%2], places[i/2].from, places[i/2].n, w)
			has(t, w, kept[i])
		}
		for i, d := range disks {
			b, _ := d.Read(0)
			if slices.Max(b) != 0 {
				t.Fatalf("disk %d: sector 0 is nobody's, and was written", i)
			}
		}
	}
}
