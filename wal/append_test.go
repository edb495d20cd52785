package wal

import (
	"math"
	"math/rand"
	"slices"
	"testing"

	"fairlead/api"
	"fairlead/disk"
)

// P15.2

// watched is a log whose disk is watched besides.
type watched struct {
	t       *testing.T
	d       *disk.Disk
	from, n int
	w       *Wal
	empty   int
	around  []string
}

// watch opens an empty log in n sectors from 3 on, with bytes all around it.
func watch(t *testing.T, n int) *watched {
	t.Helper()
	d := made(t, n+8)
	fill(t, d, 0, slices.Repeat(rising(64, 1), 3))
	fill(t, d, 3+n, slices.Repeat(rising(64, 101), 5))
	w, l := opened(t, d, 3, n)
	if len(l) != 0 {
		t.Fatalf("of noughts: %s", tell(l))
	}
	return &watched{t, d, 3, n, w, w.Room(), others(t, d, 3, n)}
}

// does holds a call against the model, and asks that nothing changes if it is refused, that it is kept if not, and that no other sectors are touched.
func (v *watched) does(o op) api.Errno {
	v.t.Helper()
	was := sectors(v.t, v.d)
	e := does(v.t, v.w, o, v.n, v.empty)
	if e != 0 && !slices.Equal(sectors(v.t, v.d), was) {
		v.t.Fatalf("%s: refused, but sectors changed", o)
	}
	if v.d.Waiting() != 0 {
		v.t.Fatalf("%s: %d writes wait", o, v.d.Waiting())
	}
	if !slices.Equal(others(v.t, v.d, v.from, v.n), v.around) {
		v.t.Fatalf("%s: other sectors were touched", o)
	}
	v.d.Crash(nil)
	v.d.Start()
	anew(v.t, v.d, v.from, v.n, v.w)
	return e
}

// TestWhichRecords: records of each type around the ends, and with each number of bytes around the ends, to Append and to Reset.
func TestWhichRecords(t *testing.T) {
	types := []int{math.MinInt, -256, -255, -1, 0, 1, 2, 127, 128, 254, 255, 256, 257, 511, 512, math.MaxInt}
	for _, kind := range types {
		for _, length := range []int{0, 1, 2, 63, 64, 8191, 8192, 8193, 8194, 65535, 65536, 65537} {
			v := watch(t, 300)
			first, r := rec(3, 5, 5), rec(kind, length, 1)
			is(t, v.does(appends(first)), 0)
			want := api.OK
			if kind < 1 || kind > 255 || length > 8192 {
				want = api.ErrRecord
			}
			is(t, v.does(appends(r)), want)
			is(t, v.does(resets(first, r)), want)
			is(t, v.does(resets(r, first)), want)
			is(t, v.does(resets(r)), want)
		}
	}
}

// TestDataNil: a record whose Data is nil is one without bytes.
func TestDataNil(t *testing.T) {
	v := watch(t, 4)
	is(t, v.does(appends(api.Record{Type: 1})), 0)
	is(t, v.does(appends(api.Record{Type: 2, Data: []byte{}})), 0)
	has(t, v.w, []api.Record{{Type: 1}, {Type: 2}})
	is(t, v.does(resets(api.Record{Type: 9}, api.Record{Type: 8, Data: []byte{}})), 0)
	has(t, v.w, []api.Record{{Type: 9}, {Type: 8}})
}

// TestJustRoom: for each n, behind records of each length, a record of just the room fits, and one with a byte more does not.
func TestJustRoom(t *testing.T) {
	for n := 4; n <= 12; n++ {
		for length := range 140 {
			v := watch(t, n)
			first := rec(1, length, 1)
			if v.does(appends(first)) != 0 {
				break
			}
			room := v.w.Room()
			if room < around {
				is(t, v.does(appends(rec(2, 0, 0))), api.ErrFull)
				continue
			}
			is(t, v.does(appends(rec(2, room-around+1, 2))), api.ErrFull)
			is(t, v.does(appends(rec(2, room-around, 2))), 0)
			if got := v.w.Room(); got >= around {
				t.Fatalf("n %d: behind a record of just the room there is room %d", n, got)
			}
			is(t, v.does(appends(rec(3, 0, 0))), api.ErrFull)
		}
	}
}

// TestJustRoomOfReset: records that have just the room of the empty log in all, and a byte more, however full the log is.
func TestJustRoomOfReset(t *testing.T) {
	for n := 4; n <= 12; n++ {
		for full := range 3 {
			v := watch(t, n)
			for range full {
				is(t, v.does(appends(rec(1, v.empty/2-around, 1))), 0)
			}
			first := rec(4, v.empty/3, 4)
			left := v.empty - around - len(first.Data) - around
			is(t, v.does(resets(first, rec(5, left+1, 5))), api.ErrFull)
			is(t, v.does(resets(first, rec(5, left, 5), rec(6, 0, 0))), api.ErrFull)
			is(t, v.does(resets(rec(5, v.empty-around+1, 5))), api.ErrFull)
			is(t, v.does(resets(first, rec(5, left, 5))), 0)
			is(t, v.does(appends(rec(6, 0, 0))), api.ErrFull)
			is(t, v.does(resets(rec(5, v.empty-around, 5))), 0)
			is(t, v.does(appends(rec(6, 0, 0))), api.ErrFull)
			is(t, v.does(resets()), 0)
			if got := v.w.Room(); got != v.empty {
				t.Fatalf("n %d: room %d of an empty log, %d at first", n, got, v.empty)
			}
		}
	}
}

// TestGreatest: a log on a whole disk of the most sectors, and on all but one: records up to just its room, by Append and by Reset.
func TestGreatest(t *testing.T) {
	for _, n := range []int{api.MaxDisk - 1, api.MaxDisk} {
		d := made(t, api.MaxDisk)
		w, _ := opened(t, d, api.MaxDisk-n, n)
		empty := w.Room()
		l := slices.Repeat([]api.Record{rec(1, mostBytes, 1)}, empty/(mostBytes+around))
		is(t, w.Reset(append(l, rec(2, empty-len(l)*(mostBytes+around)-around+1, 2))), api.ErrFull)
		is(t, w.Reset(l), 0)
		last := rec(2, w.Room()-around, 2)
		is(t, w.Append(rec(2, len(last.Data)+1, 2)), api.ErrFull)
		is(t, w.Append(last), 0)
		l = append(l, last)
		has(t, w, l)
		w = anew(t, d, api.MaxDisk-n, n, w)
		is(t, w.Append(rec(1, 0, 0)), api.ErrFull)
		l[0] = rec(3, mostBytes, 3)
		is(t, w.Reset(l), 0)
		d.Crash(nil)
		d.Start()
		anew(t, d, api.MaxDisk-n, n, w)
		has(t, w, l)
	}
}

// TestManySmall: Append upon Append up to the room, all opened anew behind each.
func TestManySmall(t *testing.T) {
	for _, n := range []int{4, 5, 6, 7, 20} {
		for length := range 5 {
			v := watch(t, n)
			l := []api.Record{}
			for v.w.Room() >= around+length {
				r := rec(1+len(l)%255, length, byte(len(l)))
				is(t, v.does(appends(r)), 0)
				l = append(l, r)
				has(t, v.w, l)
			}
			if most := v.empty / (around + length); len(l) < most {
				t.Fatalf("%d records, not %d", len(l), most)
			}
			is(t, v.does(appends(rec(1, length, 1))), api.ErrFull)
			is(t, v.does(resets(l...)), 0)
			is(t, v.does(resets(l[1:]...)), 0)
			is(t, v.does(appends(l[0])), 0)
			has(t, v.w, append(l[1:], l[0]))
		}
	}
}

// TestWhichFaultFirst: a record that may not be is told ahead of what does not fit, wherever it stands.
func TestWhichFaultFirst(t *testing.T) {
	v := watch(t, 8)
	first := rec(1, 100, 1)
	is(t, v.does(appends(first)), 0)
	wrong, long := rec(0, 5, 1), rec(1, 8000, 1)
	is(t, v.does(appends(rec(256, 8000, 1))), api.ErrRecord)
	is(t, v.does(appends(rec(1, 8193, 1))), api.ErrRecord)
	is(t, v.does(appends(long)), api.ErrFull)
	is(t, v.does(resets(long)), api.ErrFull)
	many := []api.Record{first, first, long, first, first}
	is(t, v.does(resets(many...)), api.ErrFull)
	for i := range many {
		l := slices.Clone(many)
		l[i] = wrong
		is(t, v.does(resets(l...)), api.ErrRecord)
		is(t, v.does(resets(slices.Insert(slices.Clone(many), i, wrong)...)), api.ErrRecord)
	}
	is(t, v.does(resets(append(many, wrong)...)), api.ErrRecord)
	has(t, v.w, []api.Record{first})
}

// TestResets: to none, to fewer, to the same, to more, and again, with Append between.
func TestResets(t *testing.T) {
	a, b, c := rec(1, 10, 1), rec(2, 0, 0), rec(3, 70, 3)
	for _, first := range [][]api.Record{nil, {}, {a}, {a, b}, {c, a, b}} {
		for _, second := range [][]api.Record{nil, {}, {a}, {b}, {a, a}, {b, c}, {c, a, b}} {
			for _, between := range []bool{false, true} {
				v := watch(t, 10)
				is(t, v.does(resets(first...)), 0)
				if between {
					is(t, v.does(appends(c)), 0)
				}
				for range 3 {
					is(t, v.does(op{true, second}), 0)
				}
				has(t, v.w, second)
				is(t, v.does(appends(a)), 0)
				has(t, v.w, append(slices.Clone(second), a))
			}
		}
	}
}

// TestDead: behind ErrDead, wherever it came from, all is ErrDead, also when there is power again.
func TestDead(t *testing.T) {
	good, wrong, long := rec(1, 20, 1), rec(0, 0, 0), rec(1, 8000, 1)
	for _, o := range []op{appends(good), resets(), resets(good, good)} {
		for k := -1; k < 20; k++ {
			d := made(t, 9)
			w, _ := opened(t, d, 0, 9)
			is(t, w.Append(good), 0)
			if k < 0 {
				d.Crash(nil)
			} else {
				d.Arm(k)
			}
			if o.do(w) == 0 {
				if k < 0 || !d.Alive() {
					t.Fatalf("%s without power is OK", o)
				}
				break
			}
			if d.Alive() {
				t.Fatalf("%s was refused though there is power", o)
			}
			for i := range 3 {
				for _, r := range []api.Record{good, wrong, long} {
					is(t, w.Append(r), api.ErrDead)
					is(t, w.Reset([]api.Record{r}), api.ErrDead)
				}
				is(t, w.Reset(nil), api.ErrDead)
				if w.Room() != 0 || len(w.Records()) != 0 {
					t.Fatalf("behind ErrDead: room %d, %s", w.Room(), tell(w.Records()))
				}
				switch i {
				case 0:
					d.Crash(nil)
				case 1:
					d.Start()
				}
			}
		}
	}
}

// TestRefusedWithoutPower: what is told ahead of ErrDead is told without power, too, and the log goes on with the power that comes.
func TestRefusedWithoutPower(t *testing.T) {
	v := watch(t, 9)
	good, wrong, long := rec(1, 20, 1), rec(0, 0, 0), rec(1, 8000, 1)
	is(t, v.does(appends(good)), 0)
	room := v.w.Room()
	v.d.Crash(nil)
	is(t, v.w.Append(wrong), api.ErrRecord)
	is(t, v.w.Append(long), api.ErrFull)
	is(t, v.w.Reset([]api.Record{long, wrong}), api.ErrRecord)
	is(t, v.w.Reset([]api.Record{long, good}), api.ErrFull)
	has(t, v.w, []api.Record{good})
	if v.w.Room() != room {
		t.Fatalf("room %d, not %d", v.w.Room(), room)
	}
	v.d.Start()
	is(t, v.does(appends(good)), 0)
	is(t, v.does(resets(good)), 0)
}

// TestRowsOfChance: rows of calls, the log opened anew between some, held against the model.
func TestRowsOfChance(t *testing.T) {
	r := rand.New(rand.NewSource(4))
	for range 150 {
		v := watch(t, 4+r.Intn(20))
		for range 40 {
			v.does(chosen(r, v.empty))
			if r.Intn(3) == 0 {
				v.w = anew(t, v.d, v.from, v.n, v.w)
			}
		}
	}
}

// chosen answers a call of chance, for a log whose empty room that is.
func chosen(r *rand.Rand, empty int) op {
	one := func(most int) api.Record {
		kind := 1 + r.Intn(255)
		if r.Intn(40) == 0 {
			kind = []int{0, 256}[r.Intn(2)]
		}
		return api.Record{Type: kind, Data: chance(r, r.Intn(most+1))}
	}
	switch r.Intn(8) {
	case 0:
		return appends(one(2 * empty))
	case 1, 2:
		l := []api.Record{}
		for range r.Intn(5) {
			l = append(l, one(empty/3))
		}
		return resets(l...)
	case 3:
		return appends(one(empty))
	}
	return appends(one(empty / 5))
}
