package wal

import (
	"encoding/binary"
	"hash/crc32"
	"math"
	"math/rand"
	"slices"
	"strings"
	"testing"

	"fairlead/api"
	"fairlead/disk"
)

// P15.3

// leaving is how the power goes and comes: with a Crash that leaves so much of what waits, or with all that waits as it was.
type leaving struct {
	waits bool
	keep  []int
}

func (l leaving) leave(d *disk.Disk) {
	if !l.waits {
		d.Crash(l.keep)
	}
	d.Start()
}

// leavings are ways to leave so many writes: all still waiting, none, all, all by half, each one alone, all but each one, by chance, and each way there is if there are few.
func leavings(r *rand.Rand, waiting int) []leaving {
	l := []leaving{{waits: true}}
	for k := range 4 {
		l = append(l, leaving{keep: slices.Repeat([]int{k}, waiting)})
	}
	if waiting < 4 {
		for ways := range 1 << (2 * waiting) {
			keep := []int{}
			for i := range waiting {
				keep = append(keep, ways>>(2*i)&3)
			}
			l = append(l, leaving{keep: keep})
		}
		return l
	}
	for range min(waiting, 8) {
		i := r.Intn(waiting)
		for k := range 4 {
			alone := make([]int, waiting)
			alone[i] = k
			but := slices.Repeat([]int{1}, waiting)
			but[i] = k
			l = append(l, leaving{keep: alone}, leaving{keep: but})
		}
		some := make([]int, waiting)
		for i := range some {
			some[i] = r.Intn(4)
		}
		l = append(l, leaving{keep: some})
	}
	return l
}

// among tells whether records are those of one of several rows.
func among(l []api.Record, may [][]api.Record) bool {
	return slices.ContainsFunc(may, func(m []api.Record) bool { return alike(l, m) })
}

func tellAll(may [][]api.Record) string {
	s := []string{}
	for _, m := range may {
		s = append(s, tell(m))
	}
	return strings.Join(s, " or ")
}

// trial stops a log wherever it can be stopped.
type trial struct {
	t       *testing.T
	r       *rand.Rand
	from, n int
	seen    map[string]bool // disks that were tried
	runs    int
}

func newTrial(t *testing.T, from, n int) *trial {
	return &trial{t: t, r: rand.New(rand.NewSource(5)), from: from, n: n, seen: map[string]bool{}}
}

// run opens the log, which must have what it may, and does a row of calls up to the one that finds no power. It answers what the log may have then, and whether the power went.
func (x *trial) run(d *disk.Disk, may [][]api.Record, row []op) ([][]api.Record, bool) {
	x.t.Helper()
	x.runs++
	w, l, e := Open(d, x.from, x.n)
	if e == api.ErrDead && !d.Alive() {
		return may, true
	}
	is(x.t, e, 0)
	if !among(l, may) {
		x.t.Fatalf("%s, not %s", tell(l), tellAll(may))
	}
	for _, o := range row {
		switch e := o.do(w); e {
		case api.OK:
			l = o.after(l)
		case api.ErrDead:
			if d.Alive() {
				x.t.Fatalf("%s: ErrDead with power", o)
			}
			return [][]api.Record{l, o.after(l)}, true
		}
	}
	has(x.t, w, l)
	return [][]api.Record{l}, false
}

// ends asks what a log has that was stopped: what it may, the same at each Open, behind one more stop, too, and what is appended then.
func (x *trial) ends(d *disk.Disk, may [][]api.Record) {
	x.t.Helper()
	w, l := opened(x.t, d, x.from, x.n)
	if !among(l, may) {
		x.t.Fatalf("%s, not %s", tell(l), tellAll(may))
	}
	d.Crash(nil)
	d.Start()
	w = anew(x.t, d, x.from, x.n, w)
	o := appends(rec(77, 1, 77))
	if does(x.t, w, o, x.n, w.Room()) == 0 {
		l = o.after(l)
	}
	d.Crash(nil)
	d.Start()
	w = anew(x.t, d, x.from, x.n, w)
	has(x.t, w, l)
}

// stops does rows of calls, one behind the other, each one stopped at each write, in each way, and the log opened anew ahead of the next one; the power may go within that Open, too.
func (x *trial) stops(start func() *disk.Disk, may [][]api.Record, rows ...[]op) {
	x.t.Helper()
	for k := 0; ; k++ {
		again := func() (*disk.Disk, [][]api.Record, bool) {
			d := start()
			d.Arm(k)
			may, died := x.run(d, may, rows[0])
			return d, may, died
		}
		d, then, died := again()
		if !died {
			x.ends(d, then)
			return
		}
		for _, l := range leavings(x.r, d.Waiting()) {
			next := func() *disk.Disk {
				d, _, _ := again()
				l.leave(d)
				return d
			}
			x.goesOn(next, l.waits, then, rows[1:])
		}
	}
}

// goesOn does the rows that are left on a disk that was stopped, unless it did on one that is alike.
func (x *trial) goesOn(next func() *disk.Disk, waits bool, may [][]api.Record, rows [][]op) {
	x.t.Helper()
	if !waits {
		image := sectors(x.t, next())
		key := string(rune('0'+len(rows))) + strings.Join(image, "") + tellAll(may)
		if x.seen[key] {
			return
		}
		x.seen[key] = true
		next = func() *disk.Disk {
			d := made(x.t, len(image))
			for at, s := range image {
				is(x.t, d.Write(at, []byte(s)), 0)
			}
			is(x.t, d.Flush(), 0)
			return d
		}
	}
	x.ends(next(), may)
	if len(rows) > 0 {
		x.stops(next, may, rows...)
	}
}

// begins tries rows on a disk that holds bytes where the log is to lie.
func (x *trial) begins(b []byte, rows ...[]op) {
	x.t.Helper()
	start := func() *disk.Disk {
		d := made(x.t, x.from+x.n+2)
		fill(x.t, d, x.from, b)
		return d
	}
	_, l := opened(x.t, start(), x.from, x.n)
	x.stops(start, [][]api.Record{l}, rows...)
}

// plainRows are rows with records that begin and end in one sector, or go through several, and with Reset to none, to fewer and to others.
func plainRows() [][]op {
	return [][]op{
		{appends(rec(1, 10, 1)), appends(rec(2, 0, 0)), appends(rec(3, 40, 3)), appends(rec(4, 70, 4))},
		{resets(rec(5, 90, 5)), appends(rec(6, 20, 6)), resets(rec(7, 3, 7), rec(8, 30, 8))},
		{resets(), appends(rec(9, 57, 9)), resets(), resets(rec(10, 1, 10)), appends(rec(11, 1, 11))},
		{appends(rec(12, 30, 12)), appends(rec(13, 30, 13)), resets(rec(12, 30, 12), rec(13, 30, 13))},
	}
}

// TestStoppedOnce: each row on its own, on several numbers of sectors, stopped at each write and left in each way.
func TestStoppedOnce(t *testing.T) {
	for _, n := range []int{4, 5, 6, 9, 12} {
		for _, row := range plainRows() {
			x := newTrial(t, 1, n)
			x.begins(nil, row)
		}
	}
}

// TestStoppedTwice: each row behind each other one.
func TestStoppedTwice(t *testing.T) {
	t.Parallel()
	for _, first := range plainRows() {
		for _, second := range plainRows() {
			x := newTrial(t, 1, 10)
			x.begins(nil, first, second)
		}
	}
}

// TestStoppedAgainAndAgain: short rows, stopped three times and four.
func TestStoppedAgainAndAgain(t *testing.T) {
	t.Parallel()
	x := newTrial(t, 0, 8)
	x.begins(nil, []op{appends(rec(1, 10, 1))}, []op{appends(rec(2, 60, 2))}, []op{resets(rec(3, 20, 3))}, []op{appends(rec(4, 20, 4))})
	x = newTrial(t, 0, 5)
	x.begins(nil, []op{appends(rec(1, 5, 1)), resets(rec(2, 5, 2))}, []op{appends(rec(3, 5, 3)), resets()}, []op{resets(rec(4, 40, 4)), appends(rec(5, 5, 5))})
}

// TestStoppedFull: a log that is full, to which more is appended, and that is reset.
func TestStoppedFull(t *testing.T) {
	t.Parallel()
	for _, n := range []int{4, 5, 7} {
		x := newTrial(t, 2, n)
		w, _ := opened(t, made(t, n), 0, n)
		all := rec(1, w.Room()-around, 1)
		x.begins(nil, []op{appends(all), appends(rec(2, 0, 0)), resets(all)}, []op{resets(all, all), resets(rec(3, 1, 3)), resets(all)})
	}
}

// TestStoppedLong: a record of the most bytes, and Reset to several: many writes wait.
func TestStoppedLong(t *testing.T) {
	t.Parallel()
	x := newTrial(t, 0, 600)
	start := func() *disk.Disk {
		d := made(t, 600)
		w, _ := opened(t, d, 0, 600)
		is(t, w.Append(rec(9, 100, 9)), 0)
		return d
	}
	long := rec(1, mostBytes, 1)
	has := []api.Record{rec(9, 100, 9)}
	for _, o := range []op{appends(long), resets(long, long)} {
		for _, k := range []int{0, 1, 2, 64, 127, 128, 129, 130, 131, 132, 256, 257, 258, 259, 260} {
			again := func() (*disk.Disk, bool) {
				d := start()
				d.Arm(k)
				_, died := x.run(d, [][]api.Record{has}, []op{o})
				return d, died
			}
			d, died := again()
			may := [][]api.Record{has, o.after(has)}
			if !died {
				x.ends(d, may[1:])
				break
			}
			for _, l := range leavings(x.r, d.Waiting()) {
				d, _ := again()
				l.leave(d)
				x.ends(d, may)
			}
		}
	}
}

// TestStoppedInOpen: a stop within Append or Reset that leaves writes that wait, then one within Open at each write, as often as there is one, in each way, and then no more.
func TestStoppedInOpen(t *testing.T) {
	none := []op{}
	for _, row := range plainRows() {
		x := newTrial(t, 1, 9)
		x.begins(nil, row, none, none)
	}
}

// neutral are bytes that change no sum when they are taken from a record, or put to it: the sum's polynomial itself.
func neutral(t *testing.T) []byte {
	t.Helper()
	polynomial := uint64(1<<32 | 0x1edc6f41)
	b := make([]byte, 5)
	for i := range 33 {
		b[i/8] |= byte(polynomial>>(32-i)&1) << (i % 8)
	}
	table := crc32.MakeTable(crc32.Castagnoli)
	if crc32.Checksum(append([]byte("ahead"), b...), table) != crc32.Checksum(append([]byte("ahead"), 0, 0, 0, 0, 0), table) {
		t.Fatal("not neutral")
	}
	return b
}

// neutralRecord answers a record in which such bytes stand again and again, or noughts.
func neutralRecord(t *testing.T, n, step int, noughts bool) api.Record {
	b := make([]byte, n)
	for i := 3; i+5 <= n && !noughts; i += step {
		copy(b[i:], neutral(t))
	}
	return api.Record{Type: 6, Data: b}
}

// TestStoppedSumsAlike: records whose sums are right also where a half of a sector is not written.
func TestStoppedSumsAlike(t *testing.T) {
	t.Parallel()
	for ahead := 0; ahead < 64; ahead += 21 {
		for _, step := range []int{16, 64} {
			x := newTrial(t, 0, 13)
			with, without := neutralRecord(t, 150, step, false), neutralRecord(t, 150, step, true)
			first := rec(1, ahead, 1)
			x.begins(nil, []op{appends(first), appends(with), resets(first, with), resets(first, without), resets(first, with), resets(first), appends(without)})
			x.begins(nil, []op{appends(with), resets(without)}, []op{appends(first), resets(with)})
		}
	}
}

// ownBytes are bytes such as a log may have written: heads, and records with the salts of some turns.
func ownBytes(t *testing.T, at place) [][]byte {
	t.Helper()
	all := [][]byte{}
	for turn := range uint64(5) {
		for _, length := range []int{0, 8, 27, 64} {
			b, e := head{turn, length}.frame(at)
			is(t, e, 0)
			all = append(all, b, append(make([]byte, 25), b...), slices.Repeat(append(b, make([]byte, 32-len(b))...), 3))
		}
		all = append(all, framed(t, turn, rec(1, 1, 1), rec(2, 20, 2)), slices.Repeat(framed(t, turn, rec(3, 1, 9)), 12))
	}
	return all
}

// TestStoppedOwnBytes: records whose bytes look like a log's own, at each place of a sector, appended to and reset.
func TestStoppedOwnBytes(t *testing.T) {
	t.Parallel()
	for i, b := range ownBytes(t, place{1, 11}) {
		x := newTrial(t, 1, 11)
		r := api.Record{Type: 1 + i%3, Data: b}
		x.begins(nil, []op{appends(rec(1, i%64, 1)), appends(r), resets(r), appends(rec(1, 5, 5)), resets(rec(1, 5, 5)), appends(r), resets(r, rec(1, 1, 1))})
		x.begins(nil, []op{appends(r)}, []op{resets(rec(1, 5, 5)), resets(r)})
	}
}

// TestStoppedOnOtherBytes: sectors that held other bytes ahead of the first Open.
func TestStoppedOnOtherBytes(t *testing.T) {
	t.Parallel()
	r := rand.New(rand.NewSource(6))
	for _, n := range []int{4, 8} {
		for _, b := range otherBytes(t, r, 3, n) {
			x := newTrial(t, 3, n)
			x.begins(b, []op{appends(rec(1, 10, 1)), resets(rec(2, 20, 2)), appends(rec(3, 20, 3))}, []op{resets(), appends(rec(4, 50, 4))})
		}
	}
}

// TestStoppedOnFalseHeads: sectors with a head as a log writes it, which tells of records that are not there, or not all of them; what is written then must not make them whole.
func TestStoppedOnFalseHeads(t *testing.T) {
	t.Parallel()
	at := place{1, 9}
	for _, bytes := range []int{20, 25, 57} { // the second record in the first one's half of a sector, in the next half, in the next sector
		first, second := rec(1, bytes, 1), rec(2, 20, 2)
		size, _ := sizes([]api.Record{first})
		both, _ := sizes([]api.Record{first, second})
		for _, turn := range []uint64{0, 1, 2, 1 << 63, math.MaxUint64} {
			lengths := []uint64{uint64(both), uint64(both) + 9}
			if bytes == 20 {
				lengths = append(lengths, 0, 1, uint64(size), uint64(at.room()), uint64(at.room())+1, 1<<32, 1<<63+5, math.MaxUint64)
			}
			for _, length := range lengths {
				for salt := turn; salt != turn+3; salt++ {
					whole := framed(t, salt, first, second)
					for _, half := range [][]byte{whole, whole[:size], append(make([]byte, size), whole[size:]...)} {
						b := falseHead(t, at, turn, length)
						for range 2 {
							b = append(b, padded(half, 64*at.half())...)
						}
						x := newTrial(t, at.from, at.n)
						x.begins(b, []op{appends(first), resets(first, first)})
						x.begins(b, []op{resets(first), appends(second)})
						if length == uint64(both) {
							// Its bytes from where the first record ends on are the second one's.
							sly := api.Record{Type: 3, Data: append(make([]byte, size-3), whole[size:]...)}
							x.begins(b, []op{appends(first)}, []op{resets(first), appends(first)})
							x.begins(b, []op{appends(sly)})
							x.begins(b, []op{resets(sly)})
						}
					}
				}
			}
		}
	}
}

// TestHeadsPastTheHalf: a head that tells of more than a half has tells of none, also where there are records just so long.
func TestHeadsPastTheHalf(t *testing.T) {
	for _, at := range []place{{0, 9}, {0, 10}, {3, 9}, {5, 5}} {
		for _, behind := range []int{0, 1, 20} {
			for turn := range uint64(2) {
				d := made(t, at.from+at.n+behind)
				b := []byte{}
				l := []api.Record{}
				for h := (head{turn: turn}); len(b)+8 <= 64*(d.Sectors()-h.start(at)); {
					l = append(l, rec(1, 1, byte(len(l))))
					b = append(b, framed(t, turn, l[len(l)-1])...)
					fill(t, d, h.start(at), b)
					fill(t, d, at.from, falseHead(t, at, turn, uint64(len(b))))
					_, got := opened(t, d, at.from, at.n)
					if want := len(b) <= at.room(); want != alike(got, l) || !want && len(got) != 0 {
						t.Fatalf("%v, turn %d: of %d bytes %d records", at, turn, len(b), len(got))
					}
				}
			}
		}
	}
}

// falseHead answers a sector with a head of any turn and length.
func falseHead(t *testing.T, at place, turn, length uint64) []byte {
	t.Helper()
	data := binary.BigEndian.AppendUint64(binary.BigEndian.AppendUint64(nil, turn), length)
	return padded(framed(t, at.salt(), api.Record{Type: headType, Data: data}), 64)
}

func padded(b []byte, n int) []byte {
	return append(b, make([]byte, n-len(b))...)
}

// TestWhatIsAHead: what differs from a head at one place is none: its type, how many bytes it has, one bit of it.
func TestWhatIsAHead(t *testing.T) {
	at := place{0, 8}
	r := rec(5, 20, 5)
	half := padded(framed(t, 4, r), 64*at.half())
	records := func(b []byte) []api.Record {
		d := made(t, 8)
		fill(t, d, 0, append(slices.Clone(b), half...))
		_, l := opened(t, d, 0, 8)
		return l
	}
	right := falseHead(t, at, 4, 27)
	if l := records(right); !alike(l, []api.Record{r}) {
		t.Fatalf("of a head: %s", tell(l))
	}
	data := right[3:19]
	for _, other := range []api.Record{{Type: headType + 1, Data: data}, {Type: headType, Data: data[:15]}, {Type: headType, Data: append(slices.Clone(data), 0)}, {Type: headType, Data: slices.Insert(slices.Clone(data), 8, 0)}, {Type: headType, Data: nil}} {
		if l := records(padded(framed(t, at.salt(), other), 64)); len(l) != 0 {
			t.Fatalf("of %d:%x: %s", other.Type, other.Data, tell(l))
		}
	}
	for bit := range 8 * 23 {
		b := slices.Clone(right)
		b[bit/8] ^= 1 << (bit % 8)
		if l := records(b); len(l) != 0 {
			t.Fatalf("bit %d turned: %s", bit, tell(l))
		}
	}
}

// TestStoppedByChance: rows of chance, stopped by chance and left by chance, again and again on one disk.
func TestStoppedByChance(t *testing.T) {
	r := rand.New(rand.NewSource(7))
	for range 300 {
		n := 4 + r.Intn(20)
		x := newTrial(t, r.Intn(3), n)
		d := made(t, n+5)
		fill(t, d, 0, slices.Repeat(rising(64, 9), n+5))
		w, _ := opened(t, d, x.from, n)
		empty, around := w.Room(), others(t, d, x.from, n)
		may := [][]api.Record{{}}
		for range 25 {
			row := []op{}
			for range r.Intn(8) {
				row = append(row, chosen(r, empty))
			}
			d.Arm(r.Intn(30))
			then, died := x.run(d, may, row)
			may = then
			if died || r.Intn(4) == 0 {
				l := leavings(r, d.Waiting())
				l[r.Intn(len(l))].leave(d)
			}
			d.Start()
			if !slices.Equal(others(t, d, x.from, n), around) {
				t.Fatal("other sectors were touched")
			}
		}
		x.ends(d, may)
	}
}
