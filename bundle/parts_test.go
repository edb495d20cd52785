package bundle

import (
	"bytes"
	"fmt"
	"math"
	"slices"
	"testing"

	"fairlead/api"
)

// P6.4

func TestPayload(t *testing.T) {
	for _, b := range append(all(), sized(t, 4096, 0), sized(t, 4097, 0)) {
		if got := Payload(b); !bytes.Equal(got, b.Blocks[len(b.Blocks)-1].Data) {
			t.Errorf("Payload(%s) = % .200x", brief(b), got)
		}
	}
	if got := Payload(base()); string(got) != "abc" {
		t.Errorf("Payload = %q", got)
	}
	for _, b := range refusable() {
		if got := Payload(b); len(got) != 0 {
			t.Errorf("Payload(%s) = % .200x: there is none", brief(b), got)
		}
	}
	for _, b := range all() {
		b.Flags |= api.FlagFragment
		if got := Payload(b); len(got) != 0 {
			t.Errorf("Payload of the fragment %s = % .200x: there is none", brief(b), got)
		}
	}
}

// TestFind asks each number of each bundle, one that may be or not.
func TestFind(t *testing.T) {
	l := append(all(), refusable()...)
	for _, b := range slices.Clone(l) {
		b.Flags |= api.FlagFragment
		l = append(l, b)
	}
	for _, b := range l {
		for _, number := range []uint64{0, 1, 2, 3, 9, 16, 17, 255, 272, 1 << 32, 1<<32 + 1, math.MaxUint64} {
			want := -1
			for i := len(b.Blocks) - 1; i >= 0; i-- {
				if b.Blocks[i].Number == number {
					want = i
				}
			}
			if got := Find(b, number); got != want {
				t.Errorf("Find(%s, %d) = %d, not %d", brief(b), number, got, want)
			}
		}
	}
	for _, c := range []struct {
		numbers []uint64
		number  uint64
		want    int
	}{
		{nil, 0, -1},
		{nil, 1, -1},
		{[]uint64{0}, 0, 0},
		{[]uint64{1}, 0, -1},
		{[]uint64{5, 5, 5}, 5, 0},
		{[]uint64{4, 5, 5}, 5, 1},
		{[]uint64{1, 2, 3}, 3, 2},
		{[]uint64{1, math.MaxUint64}, math.MaxUint64, 1},
	} {
		var b api.Bundle
		for _, n := range c.numbers {
			b.Blocks = append(b.Blocks, api.Block{Number: n})
		}
		if got := Find(b, c.number); got != c.want {
			t.Errorf("Find of %d among %v = %d, not %d", c.number, c.numbers, got, c.want)
		}
	}
	// What room there is behind the blocks is nobody's.
	b := base()
	b.Blocks = b.Blocks[:2]
	if got := Find(b, 1); got != -1 {
		t.Errorf("Find of a block behind the end = %d", got)
	}
}

// fresh answers a block that base does not have.
func fresh() api.Block {
	return api.Block{Type: api.BlkBib, Number: 9, Flags: 1, Crc: 1, Data: []byte("new")}
}

func TestPut(t *testing.T) {
	for _, b := range all() {
		x := fresh()
		x.Number = 1000
		if len(b.Blocks) == 16 {
			continue
		}
		got, errno := Put(b, x)
		last := len(b.Blocks) - 1
		want := with(b, func(b *api.Bundle) { b.Blocks = slices.Insert(b.Blocks, last, x) })
		if errno != api.OK || !same(got, want) {
			t.Errorf("Put(%s, %v) = %s, %d", brief(b), x, brief(got), errno)
		}
	}
	for _, x := range []api.Block{
		fresh(),
		{Type: api.BlkPrevious, Number: 4},
		{Type: 2, Number: math.MaxUint64, Flags: math.MaxUint64, Crc: 2, Data: row(4096)}, // too long to be written
		{Type: 255, Number: 1000},
	} {
		got, errno := Put(base(), x)
		want := base()
		want.Blocks = []api.Block{base().Blocks[0], base().Blocks[1], x, base().Blocks[2]}
		if errno != api.OK || !same(got, want) || Check(got) != api.OK {
			t.Errorf("Put of %.60s = %s, %d", fmt.Sprint(x), brief(got), errno)
		}
	}
	alone := with(base(), func(b *api.Bundle) { b.Blocks = b.Blocks[2:] })
	got, errno := Put(alone, fresh())
	want := with(alone, func(b *api.Bundle) { b.Blocks = []api.Block{fresh(), payload("abc")} })
	if errno != api.OK || !same(got, want) {
		t.Errorf("Put ahead of a payload alone = %s, %d", brief(got), errno)
	}
}

// noPut asks that Put answers an error, and nothing besides.
func noPut(t *testing.T, b api.Bundle, x api.Block, want api.Errno) {
	t.Helper()
	if got, errno := Put(b, x); errno != want || !zero(got) {
		t.Errorf("Put(%s, %.60s) = %s, %d, not error %d", brief(b), fmt.Sprint(x), brief(got), errno, want)
	}
}

func TestPutRefuses(t *testing.T) {
	number := func(n uint64) api.Block { x := fresh(); x.Number = n; return x }
	kind := func(n uint64) api.Block { x := fresh(); x.Type = n; return x }
	l := []api.Block{number(0), number(1), number(2), number(3), kind(api.BlkHops), kind(api.BlkAge), kind(api.BlkPayload), payload("abc"), payload("")}
	l = append(append(l, base().Blocks...), wrongBlocks()...)
	for _, x := range l {
		noPut(t, base(), x, api.ErrBundle)
	}
	// One block too many.
	full := with(base(), func(b *api.Bundle) { b.Blocks = many(16) })
	noPut(t, full, number(1000), api.ErrBundle)
	if got, errno := Put(with(base(), func(b *api.Bundle) { b.Blocks = many(15) }), number(1000)); errno != api.OK || len(got.Blocks) != 16 {
		t.Errorf("Put of the last block = %s, %d", brief(got), errno)
	}
	previous := with(base(), func(b *api.Bundle) { b.Blocks[0].Type = api.BlkPrevious })
	noPut(t, previous, kind(api.BlkPrevious), api.ErrBundle)
	// Of a bundle that may not be, whatever would come of it.
	for _, b := range refusable() {
		noPut(t, b, number(1000), api.ErrBundle)
		b.Flags |= api.FlagFragment
		noPut(t, b, number(1000), api.ErrFrag)
	}
	noPut(t, with(base(), func(b *api.Bundle) { b.Blocks = b.Blocks[:2] }), payload("abc"), api.ErrBundle)
	noPut(t, with(base(), func(b *api.Bundle) { b.Blocks = nil }), payload("abc"), api.ErrBundle)
	fragment := with(base(), func(b *api.Bundle) { b.Flags = api.FlagFragment })
	for _, x := range append(l, fresh()) {
		noPut(t, fragment, x, api.ErrFrag)
	}
}

func TestDrop(t *testing.T) {
	for _, b := range all() {
		for i, x := range b.Blocks[:len(b.Blocks)-1] {
			got, errno := Drop(b, x.Number)
			want := with(b, func(b *api.Bundle) { b.Blocks = slices.Delete(b.Blocks, i, i+1) })
			if errno != api.OK || !same(got, want) || Check(got) != api.OK {
				t.Errorf("Drop(%s, %d) = %s, %d", brief(b), x.Number, brief(got), errno)
			}
		}
	}
	first, errno := Drop(base(), 2)
	want := with(base(), func(b *api.Bundle) { b.Blocks = b.Blocks[1:] })
	if errno != api.OK || !same(first, want) {
		t.Errorf("Drop of the first block = %s, %d", brief(first), errno)
	}
	alone, errno := Drop(first, 3)
	want = with(base(), func(b *api.Bundle) { b.Blocks = b.Blocks[2:] })
	if errno != api.OK || !same(alone, want) {
		t.Errorf("Drop of all but the payload = %s, %d", brief(alone), errno)
	}
	// A bundle that is too long to be written has its blocks, too.
	long := sized(t, 4097, 0)
	got, errno := Drop(long, 3)
	want = with(long, func(b *api.Bundle) { b.Blocks = slices.Delete(b.Blocks, 1, 2) })
	if errno != api.OK || !same(got, want) {
		t.Errorf("Drop of a long bundle's block = %s, %d", brief(got), errno)
	}
}

// noDrop asks that Drop answers an error, and nothing besides.
func noDrop(t *testing.T, b api.Bundle, number uint64, want api.Errno) {
	t.Helper()
	if got, errno := Drop(b, number); errno != want || !zero(got) {
		t.Errorf("Drop(%s, %d) = %s, %d, not error %d", brief(b), number, brief(got), errno, want)
	}
}

func TestDropRefuses(t *testing.T) {
	for _, number := range []uint64{0, 1, 4, 10, 255, 1<<32 + 2, 1 << 63, math.MaxUint64} {
		noDrop(t, base(), number, api.ErrBundle)
	}
	alone := with(base(), func(b *api.Bundle) { b.Blocks = b.Blocks[2:] })
	for _, number := range []uint64{0, 1, 2, 3} {
		noDrop(t, alone, number, api.ErrBundle)
	}
	// Of a bundle that may not be, though it might without that block.
	for _, b := range refusable() {
		for _, number := range []uint64{0, 1, 2, 3, 9, 17} {
			noDrop(t, b, number, api.ErrBundle)
			fragment := b
			fragment.Flags |= api.FlagFragment
			noDrop(t, fragment, number, api.ErrFrag)
		}
	}
	fragment := with(base(), func(b *api.Bundle) { b.Flags = api.FlagFragment })
	for _, number := range []uint64{0, 1, 2, 3, 4} {
		noDrop(t, fragment, number, api.ErrFrag)
	}
}

// TestPutAndDrop: what is put and dropped again leaves the bundle.
func TestPutAndDrop(t *testing.T) {
	for _, b := range all() {
		x := fresh()
		x.Number = 1000
		more, errno := Put(b, x)
		if len(b.Blocks) == 16 {
			continue
		}
		got, back := Drop(more, 1000)
		if errno != api.OK || back != api.OK || !same(got, b) {
			t.Errorf("%s is %s then: %d, %d", brief(b), brief(got), errno, back)
		}
	}
}

func TestKey(t *testing.T) {
	for _, c := range []struct {
		source    api.Eid
		time, seq uint64
		want      string
	}{
		{ipn(1, 2), 3, 4, "ipn:1.2 3 4"},
		{ipn(1, 2), 4, 3, "ipn:1.2 4 3"},
		{ipn(1, 2), 0, 0, "ipn:1.2 0 0"},
		{ipn(1, 0), 10, 100, "ipn:1.0 10 100"},
		{ipn(math.MaxUint32, math.MaxUint32), math.MaxUint64, math.MaxUint64, "ipn:4294967295.4294967295 18446744073709551615 18446744073709551615"},
		{dtn("//a/b"), 1 << 63, 1, "dtn://a/b 9223372036854775808 1"},
		{dtn("//n/"), 1, 1 << 32, "dtn://n/ 1 4294967296"},
		{dtn(""), 3, 4, "dtn:none 3 4"},
	} {
		b := with(base(), func(b *api.Bundle) { b.Source, b.Time, b.Seq = c.source, c.time, c.seq })
		if c.source == dtn("") {
			b.Flags = api.FlagWhole
		}
		if got := Key(b); got != c.want {
			t.Errorf("Key = %q, not %q", got, c.want)
		}
		b.Flags |= api.FlagFragment
		if got := Key(b); got != "" {
			t.Errorf("Key of a fragment = %q", got)
		}
	}
	for _, b := range refusable() {
		if got := Key(b); got != "" {
			t.Errorf("Key(%s) = %q: there is none", brief(b), got)
		}
	}
	// Nothing but Source, Time and Seq is in it, nor how long all is.
	want := Key(base())
	for _, b := range []api.Bundle{
		sized(t, 4097, 0),
		with(base(), func(b *api.Bundle) { b.Flags, b.Crc, b.Life = 2, 0, 7 }),
		with(base(), func(b *api.Bundle) { b.Dest, b.Report = ipn(9, 9), ipn(8, 8) }),
		with(base(), func(b *api.Bundle) { b.Blocks = b.Blocks[2:] }),
	} {
		if got := Key(b); got != want {
			t.Errorf("Key(%s) = %q, not %q", brief(b), got, want)
		}
	}
}

// R3

// room answers all that a bundle's lists hold, what is behind their ends, too.
func room(b api.Bundle) string {
	l := b.Blocks[:cap(b.Blocks)]
	s := fmt.Sprint(b.Flags, b.Crc, b.Dest, b.Source, b.Report, b.Time, b.Seq, b.Life)
	for _, x := range l {
		s += fmt.Sprint(x.Type, x.Number, x.Flags, x.Crc, len(x.Data), x.Data[:cap(x.Data)])
	}
	return s
}

// spoil changes all that a bundle's lists hold.
func spoil(b api.Bundle) {
	l := b.Blocks[:cap(b.Blocks)]
	for i := range l {
		data := l[i].Data[:cap(l[i].Data)]
		for j := range data {
			data[j] ^= 0x55
		}
		l[i] = api.Block{Type: 77, Number: 77}
	}
}

// TestBundlesStay: no call changes the bundle, or the block, that it was given, nor does what is done to an answer.
func TestBundlesStay(t *testing.T) {
	for _, b := range append(all(), refusable()...) {
		b = cloned(b)
		was := room(b)
		data := append(make([]byte, 0, 20), "new"...)
		x := api.Block{Type: api.BlkBib, Number: 1000, Data: data}
		Check(b)
		Find(b, 1)
		Key(b)
		for _, w := range [][]byte{first(Primary(b)), first(Encode(b)), Payload(b)} {
			w = w[:cap(w)]
			for i := range w {
				w[i] ^= 0x55
			}
		}
		spoil(first(Put(b, x)))
		spoil(first(Put(b, api.Block{})))
		for _, number := range []uint64{0, 1, 2, 3, 16} {
			spoil(first(Drop(b, number)))
		}
		if room(b) != was {
			t.Fatalf("%s was changed", brief(b))
		}
		if string(data[:cap(data)]) != "new"+string(make([]byte, 17)) {
			t.Fatalf("the block's Data is now %q", data[:cap(data)])
		}
	}
}

// first answers the first of two answers.
func first[T any](x T, _ api.Errno) T {
	return x
}

// TestAnswersStay: no answer hangs on what was handed in, nor on another answer, nor one list of it on another.
func TestAnswersStay(t *testing.T) {
	b, x := cloned(base()), fresh()
	more, _ := Put(b, x)
	less, _ := Drop(b, 2)
	again, _ := Put(b, x)
	wantMore, wantLess := room(cloned(more)), room(cloned(less))
	data := Payload(b)
	spoil(b)
	clear(x.Data)
	spoil(again)
	if room(cloned(more)) != wantMore || room(cloned(less)) != wantLess || string(data) != "abc" {
		t.Errorf("%s, %s, %q", brief(more), brief(less), data)
	}
	// One block's Data handed in twice is two lists in the answer.
	both := []byte("abc")
	b = base()
	b.Blocks[0].Data, b.Blocks[1].Data, b.Blocks[2].Data = both, both, both
	for _, got := range []api.Bundle{first(Put(b, api.Block{Type: 9, Number: 9, Data: both})), first(Drop(b, 3))} {
		for i := range got.Blocks {
			got.Blocks[i].Data[0] ^= byte(1 + i)
		}
		for i, y := range got.Blocks {
			if y.Data[0] != 'a'^byte(1+i) {
				t.Errorf("block %d of %s shares its Data", i, brief(got))
			}
		}
		if string(both) != "abc" {
			t.Errorf("Data handed in is now %q", both)
		}
	}
}

// TestBytesStay: Decode keeps and changes nothing of the bytes that it was given.
func TestBytesStay(t *testing.T) {
	for _, b := range append(all(), refusable()...) {
		w := append(make([]byte, 0, 10000), wire(b)...)
		was := bytes.Clone(w[:cap(w)])
		got, errno := Decode(w)
		if !bytes.Equal(w[:cap(w)], was) {
			t.Fatalf("the bytes of %s were changed", brief(b))
		}
		want := cloned(got)
		clear(w)
		if errno == api.OK && !same(got, want) {
			t.Fatalf("what was read of %s hangs on its bytes", brief(b))
		}
		copy(w, was)
		spoil(got)
		if !bytes.Equal(w[:cap(w)], was) {
			t.Fatalf("what was read of %s shares its bytes", brief(b))
		}
	}
}

// The chapter's example.
func TestExample(t *testing.T) {
	b := api.Bundle{Dest: ipn(3, 7), Source: ipn(1, 2), Report: dtn(""), Time: 3, Seq: 4, Blocks: []api.Block{payload("")}}
	if got := Key(b); got != "ipn:1.2 3 4" {
		t.Errorf("Key = %q", got)
	}
}
