package ippt

import (
	"bytes"
	"math"
	"math/rand"
	"testing"

	"fairlead/api"
	"fairlead/bundle"
)

// P9.1

// TestPlainByHand has plaintexts put together by hand, piece by piece.
func TestPlainByHand(t *testing.T) {
	const (
		payload   = "01 01 04"
		abc       = "43 616263"
		hops      = "0a 02 00"
		hopsData  = "43 820901"
		age       = "07 04 01"
		ageData   = "41 05"
		other     = "18c0 19012c 1818"
		otherData = "40"
		bib       = "0b 09 00"
	)
	for _, c := range []struct {
		target uint64
		scope  int
		want   string
	}{
		{1, 0, "00" + abc},
		{1, 1, "01" + primaryLong + abc},
		{1, 2, "02" + payload + abc},
		{1, 3, "03" + primaryLong + payload + abc},
		{1, 4, "04" + bib + abc},
		{1, 5, "05" + primaryLong + bib + abc},
		{1, 6, "06" + payload + bib + abc},
		{1, 7, "07" + primaryLong + payload + bib + abc},
		{2, 0, "00" + hopsData},
		{2, 1, "01" + primaryLong + hopsData},
		{2, 2, "02" + hops + hopsData},
		{2, 4, "04" + bib + hopsData},
		{2, 7, "07" + primaryLong + hops + bib + hopsData},
		{4, 0, "00" + ageData},
		{4, 3, "03" + primaryLong + age + ageData},
		{4, 6, "06" + age + bib + ageData},
		{4, 7, "07" + primaryLong + age + bib + ageData},
		{300, 0, "00" + otherData},
		{300, 2, "02" + other + otherData},
		{300, 5, "05" + primaryLong + bib + otherData},
		{300, 7, "07" + primaryLong + other + bib + otherData},
		{0, 0, "00" + primaryLong},
		{0, 1, "01" + primaryLong},
		{0, 2, "02" + primaryLong},
		{0, 3, "03" + primaryLong},
		{0, 4, "04" + bib + primaryLong},
		{0, 5, "05" + bib + primaryLong},
		{0, 6, "06" + bib + primaryLong},
		{0, 7, "07" + bib + primaryLong},
	} {
		a := ask(c.target, c.scope)
		if got := must(t, a); !bytes.Equal(got, unhex(t, c.want)) {
			t.Errorf("%v: % x, not %s", a, got, c.want)
		}
	}
}

// TestPlainBySums: the primary block is the one that is written, whatever its sum.
func TestPlainBySums(t *testing.T) {
	for kind, primary := range []string{primaryPlain, primaryShort, primaryLong} {
		for _, c := range []struct {
			target uint64
			scope  int
			want   string
		}{
			{0, 0, "00" + primary},
			{0, 7, "07 0b 09 00" + primary},
			{1, 0, "00 43 616263"},
			{1, 1, "01" + primary + "43 616263"},
			{4, 7, "07" + primary + "07 04 01 0b 09 00 41 05"},
		} {
			a := ask(c.target, c.scope).with(func(a *asked) { a.b.Crc = kind })
			if got := must(t, a); !bytes.Equal(got, unhex(t, c.want)) {
				t.Errorf("%v: % x, not %s", a, got, c.want)
			}
		}
	}
}

// TestNumbersOfBib: kind, number and flags are taken as they come, those of a block that is there, or may not be, too.
func TestNumbersOfBib(t *testing.T) {
	for _, c := range []struct {
		kind, number, flags uint64
		want                string
	}{
		{0, 0, 0, "00 00 00"},
		{11, 9, 1, "0b 09 01"},
		{11, 1, 0, "0b 01 00"},
		{11, 3, 1, "0b 03 01"},
		{1, 1, 4, "01 01 04"},
		{23, 23, 23, "17 17 17"},
		{24, 24, 24, "1818 1818 1818"},
		{23, 24, 0, "17 1818 00"},
		{24, 0, 23, "1818 00 17"},
		{255, 256, 65535, "18ff 190100 19ffff"},
		{65536, math.MaxUint32, 1 << 32, "1a00010000 1affffffff 1b0000000100000000"},
		{math.MaxUint64, 0, 0, "1bffffffffffffffff 00 00"},
		{0, math.MaxUint64, 0, "00 1bffffffffffffffff 00"},
		{0, 0, math.MaxUint64, "00 00 1bffffffffffffffff"},
		{math.MaxUint64, math.MaxUint64, math.MaxUint64, "1bffffffffffffffff 1bffffffffffffffff 1bffffffffffffffff"},
	} {
		for target, end := range map[uint64]string{0: primaryLong, 1: "43 616263", 300: "40"} {
			a := ask(target, 4).with(func(a *asked) { a.kind, a.number, a.flags = c.kind, c.number, c.flags })
			if got := must(t, a); !bytes.Equal(got, unhex(t, "04"+c.want+end)) {
				t.Errorf("%v: % x, not 04 %s %s", a, got, c.want, end)
			}
			// Without 4 in the scope they are not there.
			a.scope = 0
			if got := must(t, a); !bytes.Equal(got, unhex(t, "00"+end)) {
				t.Errorf("%v: % x, not 00 %s", a, got, end)
			}
		}
	}
	for _, kind := range edges() {
		for _, number := range edges() {
			for _, flags := range edges() {
				a := ask(1, 6).with(func(a *asked) { a.kind, a.number, a.flags = kind, number, flags })
				sameAsModel(t, a)
			}
		}
	}
}

// TestData: a target's data stand whole, with their length ahead.
func TestData(t *testing.T) {
	for _, size := range []int{0, 1, 2, 22, 23, 24, 25, 254, 255, 256, 257, 1000, 4094, 4095, 4096} {
		for _, c := range []struct {
			target uint64
			place  int
		}{{1, 4}, {2, 0}, {300, 3}} {
			for scope := range 8 {
				for _, data := range [][]byte{row(size), make([]byte, size), bytes.Repeat([]byte{0xff}, size)} {
					a := ask(c.target, scope).with(func(a *asked) { a.b.Blocks[c.place].Data = data })
					sameAsModel(t, a)
				}
			}
		}
	}
	for _, c := range []struct {
		size int
		head string
	}{{0, "40"}, {1, "41"}, {23, "57"}, {24, "5818"}, {255, "58ff"}, {256, "590100"}, {4096, "591000"}} {
		a := ask(1, 0).with(func(a *asked) { a.b.Blocks[4].Data = row(c.size) })
		want := append(unhex(t, "00"+c.head), row(c.size)...)
		if got := must(t, a); !bytes.Equal(got, want) {
			t.Errorf("%v: % .20x, not % .20x", a, got, want)
		}
	}
}

// TestOfLongBundles: one that is too long to be written may be, and so has plaintexts.
func TestOfLongBundles(t *testing.T) {
	a := ask(1, 7).with(func(a *asked) {
		for i := range a.b.Blocks {
			a.b.Blocks[i].Data = row(4096)
		}
	})
	if _, errno := bundle.Encode(a.b); errno != api.ErrBundle {
		t.Fatalf("it is not too long: %d", errno)
	}
	for _, target := range []uint64{0, 1, 2, 4, 300} {
		a.target = target
		if errno := sameAsModel(t, a); errno != api.OK {
			t.Errorf("%v: %d", a, errno)
		}
	}
}

// TestOfEachBundle asks for each block of each bundle, and for the primary block, under each scope.
func TestOfEachBundle(t *testing.T) {
	for _, b := range bundles() {
		targets := []uint64{0, 1 << 40}
		for _, x := range b.Blocks {
			targets = append(targets, x.Number)
		}
		for _, target := range targets {
			for scope := -1; scope <= 8; scope++ {
				sameAsModel(t, asked{b, target, scope, api.BlkBib, 9, 0})
				sameAsModel(t, asked{b, target, scope, 300, 70000, 24})
			}
		}
	}
}

// nones answers scopes that are none.
func nones() []int {
	l := []int{
		-1, -2, -3, -4, -7, -8, -256, -1 << 32, -1<<32 + 1, math.MinInt + 1, math.MinInt,
		8, 9, 15, 16, 255, 256, 257, 263, 1 << 32, 1<<32 + 1, 1<<32 + 7, math.MaxInt - 1, math.MaxInt,
	}
	for bit := 3; bit < 63; bit++ {
		l = append(l, 1<<bit, 1<<bit|7)
	}
	return l
}

func TestScopesThatAreNone(t *testing.T) {
	for _, scope := range nones() {
		for _, target := range []uint64{0, 1, 2, 3, 4, 5, 300} {
			refused(t, ask(target, scope), api.ErrTarget)
		}
	}
	for scope := range 8 {
		for _, target := range []uint64{0, 1, 2, 4, 300} {
			if got := must(t, ask(target, scope)); got[0] != byte(scope) {
				t.Errorf("%v begins with %x", ask(target, scope), got[0])
			}
		}
	}
}

func TestTargetsThatAreNone(t *testing.T) {
	for scope := range 8 {
		// Of no block: 9 is the number of the integrity block that is to be.
		for _, target := range []uint64{5, 6, 9, 11, 44, 255, 256, 257, 299, 301, 1 << 32, 1<<32 + 1, 1<<32 + 2, 1 << 63, 1<<63 + 1, math.MaxUint64} {
			refused(t, ask(target, scope), api.ErrTarget)
		}
		// Of a block of BlkBib.
		refused(t, ask(3, scope), api.ErrTarget)
	}
}

// TestTargetsOfBib: a block of BlkBib is no target wherever it stands, and none else is refused for one that is there.
func TestTargetsOfBib(t *testing.T) {
	for n := 2; n <= 16; n++ {
		for place := range n - 1 {
			for scope := range 8 {
				a := ask(0, scope).with(func(a *asked) { a.b.Blocks = many(n); a.b.Blocks[place].Type = api.BlkBib })
				must(t, a)
				for i, x := range a.b.Blocks {
					a.target = x.Number
					if i == place {
						refused(t, a, api.ErrTarget)
					} else {
						must(t, a)
					}
				}
			}
		}
	}
	// But for BlkBib each type may be a target's, and the kind asked for is nobody's matter.
	for kind := uint64(1); kind <= 255; kind++ {
		a := ask(300, 7).with(func(a *asked) { a.b.Blocks[3].Type = kind; a.kind = kind })
		switch kind {
		case api.BlkBib:
			refused(t, a, api.ErrTarget)
		case api.BlkPayload, api.BlkHops, api.BlkAge:
			refused(t, a, api.ErrBundle)
		default:
			must(t, a)
			sameAsModel(t, a)
		}
	}
}

// refusable answers changes that make a bundle one that may not be.
func refusable() []func(b *api.Bundle) {
	return []func(b *api.Bundle){
		func(b *api.Bundle) { *b = api.Bundle{} },
		func(b *api.Bundle) { b.Crc = 3 },
		func(b *api.Bundle) { b.Crc = -1 },
		func(b *api.Bundle) { b.Dest = dtn("") },
		func(b *api.Bundle) { b.Dest = api.Eid{} },
		func(b *api.Bundle) { b.Source = ipn(0, 0) },
		func(b *api.Bundle) { b.Source = dtn("") },
		func(b *api.Bundle) { b.Report = dtn("none") },
		func(b *api.Bundle) { b.Blocks = nil },
		func(b *api.Bundle) { b.Blocks = []api.Block{} },
		func(b *api.Bundle) { b.Blocks = b.Blocks[:4] },
		func(b *api.Bundle) { b.Blocks = many(17) },
		func(b *api.Bundle) { b.Blocks[0].Number = 0 },
		func(b *api.Bundle) { b.Blocks[0].Number = 1 },
		func(b *api.Bundle) { b.Blocks[0].Number = 300 },
		func(b *api.Bundle) { b.Blocks[0].Type = 0 },
		func(b *api.Bundle) { b.Blocks[0].Type = 256 },
		func(b *api.Bundle) { b.Blocks[0].Crc = 3 },
		func(b *api.Bundle) { b.Blocks[0].Type = api.BlkAge },
		func(b *api.Bundle) { b.Blocks[0], b.Blocks[4] = b.Blocks[4], b.Blocks[0] },
		func(b *api.Bundle) { b.Blocks[4].Number = 9 },
		func(b *api.Bundle) { b.Blocks[4].Data = make([]byte, 4097) },
		func(b *api.Bundle) { b.Blocks[1].Data = make([]byte, 4097) },
	}
}

// TestErrorsInOrder: what is wrong with the bundle is told ahead of a scope, or a target, that is none.
func TestErrorsInOrder(t *testing.T) {
	for i, change := range refusable() {
		for _, target := range []uint64{0, 1, 2, 3, 4, 9, 300, math.MaxUint64} {
			for _, scope := range []int{0, 1, 2, 4, 7, 8, -1, math.MinInt, math.MaxInt} {
				a := ask(target, scope).with(func(a *asked) { change(&a.b) })
				if errno := bundle.Check(a.b); errno != api.ErrBundle {
					t.Fatalf("change %d: Check = %d", i, errno)
				}
				refused(t, a, api.ErrBundle)
				a.b.Flags |= api.FlagFragment
				refused(t, a, api.ErrFrag)
				refused(t, ask(target, scope).with(func(a *asked) { a.b.Flags = api.FlagFragment | api.FlagAdmin }), api.ErrFrag)
			}
		}
	}
}

// TestAgainstModel holds answers against the model's, of bundles and questions of many kinds.
func TestAgainstModel(t *testing.T) {
	c := rand.New(rand.NewSource(9))
	l, wrong := bundles(), refusable()
	told := map[api.Errno]int{}
	for range 40000 {
		a := asked{
			b: l[c.Intn(len(l))], scope: c.Intn(8), target: uint64(c.Intn(6)),
			kind: edges()[c.Intn(17)], number: edges()[c.Intn(17)], flags: c.Uint64() >> c.Intn(64),
		}
		a = a.with(func(a *asked) {
			x := &a.b.Blocks[c.Intn(len(a.b.Blocks))]
			x.Flags, x.Crc, x.Data = c.Uint64()>>c.Intn(64), c.Intn(3), row(c.Intn(40))
			if c.Intn(2) == 0 {
				a.target = x.Number
			}
			if c.Intn(20) == 0 {
				a.scope = nones()[c.Intn(len(nones()))]
			}
			if c.Intn(20) == 0 && len(a.b.Blocks) == 5 {
				wrong[c.Intn(len(wrong))](&a.b)
			}
			if c.Intn(20) == 0 {
				a.b.Flags |= api.FlagFragment
			}
		})
		told[sameAsModel(t, a)]++
	}
	for _, errno := range []api.Errno{api.OK, api.ErrBundle, api.ErrFrag, api.ErrTarget} {
		if told[errno] < 500 {
			t.Errorf("%d was told but %d times", errno, told[errno])
		}
	}
}

// R3

// room answers all that a bundle's lists hold, what is behind their ends, too.
func room(b api.Bundle) []api.Block {
	l := append([]api.Block(nil), b.Blocks[:cap(b.Blocks)]...)
	for i := range l {
		l[i].Data = bytes.Clone(l[i].Data[:cap(l[i].Data)])
	}
	return l
}

// roomy answers a bundle with room behind each of its lists, in which something stands.
func roomy(b api.Bundle) api.Bundle {
	l := make([]api.Block, 0, len(b.Blocks)+2)
	l = append(l, b.Blocks...)
	for i := range l {
		data := append(bytes.Clone(l[i].Data), "behind"...)
		l[i].Data = data[:len(data)-len("behind")]
	}
	more := append(l, api.Block{Type: 77, Number: 5}, api.Block{Type: 78, Number: 6})
	b.Blocks = more[:len(l)]
	return b
}

// sameRoom tells whether lists hold the same.
func sameRoom(x, y []api.Block) bool {
	if len(x) != len(y) {
		return false
	}
	for i := range x {
		a, b := x[i], y[i]
		if a.Type != b.Type || a.Number != b.Number || a.Flags != b.Flags || a.Crc != b.Crc || !bytes.Equal(a.Data, b.Data) {
			return false
		}
	}
	return true
}

// TestBundlesStay: no call changes the bundle that it was given, nor does what is done to an answer; what is behind a list's end is nobody's.
func TestBundlesStay(t *testing.T) {
	for _, b := range bundles() {
		rich := roomy(b)
		was := room(rich)
		for _, target := range []uint64{0, 1, 2, 3, 4, 5, 6, 300} {
			for scope := -1; scope <= 8; scope++ {
				a := asked{rich, target, scope, api.BlkBib, 9, 0}
				sameAsModel(t, a)
				w, _ := a.plain()
				w = append(w, "more"...)
				w = w[:cap(w)]
				for i := range w {
					w[i] ^= 0x55
				}
				if !sameRoom(room(rich), was) {
					t.Fatalf("%v: the bundle was changed", a)
				}
				sameAsModel(t, a)
			}
		}
	}
	refused(t, asked{roomy(base()), 5, 7, api.BlkBib, 9, 0}, api.ErrTarget)
	refused(t, asked{roomy(base()), 6, 7, api.BlkBib, 9, 0}, api.ErrTarget)
}

// TestAnswersStay: neither a later call nor what becomes of the bundle changes an answer.
func TestAnswersStay(t *testing.T) {
	for _, target := range []uint64{0, 1, 2, 4, 300} {
		for scope := range 8 {
			a := ask(target, scope)
			want, _ := model(a)
			first, second := must(t, a), must(t, a)
			must(t, ask(1, 7).with(func(a *asked) { a.b.Blocks[4].Data = row(1000) }))
			must(t, ask(0, 7))
			refused(t, ask(3, 7), api.ErrTarget)
			clear(second[:cap(second)])
			for i := range a.b.Blocks {
				clear(a.b.Blocks[i].Data)
			}
			clear(a.b.Blocks)
			if !bytes.Equal(first, want) {
				t.Errorf("target %d, scope %d: % x, not % x", target, scope, first, want)
			}
		}
	}
}

// The chapter's example.
func TestExample(t *testing.T) {
	a := ask(1, 0).with(func(a *asked) { a.b.Blocks[4].Data = []byte{5} })
	if got := must(t, a); !bytes.Equal(got, unhex(t, "00 41 05")) {
		t.Errorf("%v: % x", a, got)
	}
}
