package bib

import (
	"bytes"
	"math"
	"math/rand"
	"slices"
	"testing"

	"fairlead/api"
	"fairlead/bundle"
)

// P10.2

// refusedSign asks for an error of Sign, and nothing besides.
func refusedSign(t *testing.T, a asked, want api.Errno) {
	t.Helper()
	got, errno := a.sign()
	if errno != want || !same(got, api.Bundle{}) {
		t.Errorf("%v: %s, %d, not error %d alone", a, brief(got), errno, want)
	}
}

// signedBy answers the base with a block of number 9 put together by hand.
func signedBy(t *testing.T, data string) api.Bundle {
	t.Helper()
	return put(base(), 9, 0, unhex(t, data))
}

// The tags, reckoned elsewhere, of the base's blocks for an integrity block of number 9, by scope and target.
const (
	tagOf7And1 = "255d7cc11f26f430acd0598ac2830c9488d027b17e4e3c9099790c7839b2e42d"
	tagOf0And1 = "6f2c4c01c4dfe9c4c136fbd14fdad305d21cba8954a6d93140df9e9e1589de98"
	tagOf0And2 = "e7c8bbe62c908d2fc506caf1829b6f8da8f8873a5b23377f719fcc168e21e0be"
	tagOf5And0 = "f830b1e505e26cde33b3b4033a7ec7e4c65295a4b7fe138cb95f3b5ec12bea03"
	tagOf5And1 = "cee37506dfba2ef3a7c3b1dbcd1110601ac0e73b6b8676dce0ddc2e4847ee81b"
	tagOf5And4 = "fcbea5dcc9e625773407ba4a99d54d7d82116bba0e7d03321134c51b9db597c8"
)

// TestSignByHand: the block stands ahead of the payload, put together by hand, all else is as it was.
func TestSignByHand(t *testing.T) {
	for _, c := range []struct {
		a asked
		w string
	}{
		{ask(7, 1), "81 01 01 01 82 02 82 01 02 82 82 01 05 82 03 07 81 81 82 01 5820" + tagOf7And1},
		{ask(0, 1), "81 01 01 01 82 02 82 01 02 82 82 01 05 82 03 00 81 81 82 01 5820" + tagOf0And1},
		{ask(0, 1, 2), "82 01 02 01 01 82 02 82 01 02 82 82 01 05 82 03 00 82 81 82 01 5820" + tagOf0And1 + "81 82 01 5820" + tagOf0And2},
		{ask(0, 2, 1), "82 02 01 01 01 82 02 82 01 02 82 82 01 05 82 03 00 82 81 82 01 5820" + tagOf0And2 + "81 82 01 5820" + tagOf0And1},
		{ask(5, 0), "81 00 01 01 82 02 82 01 02 82 82 01 05 82 03 05 81 81 82 01 5820" + tagOf5And0},
		{ask(5, 4, 0, 1), "83 04 00 01 01 01 82 02 82 01 02 82 82 01 05 82 03 05 83 81 82 01 5820" + tagOf5And4 + "81 82 01 5820" + tagOf5And0 + "81 82 01 5820" + tagOf5And1},
	} {
		want := signedBy(t, c.w)
		if got := must(t, c.a); !same(got, want) {
			t.Errorf("%v: %v, not %v", c.a, got, want)
		}
	}
}

// TestSignOfPlaintexts: a tag is the one of a plaintext that is put together by hand.
func TestSignOfPlaintexts(t *testing.T) {
	const ofBib, abc = "0b 09 00", "43 616263"
	for scope, plain := range []string{
		"00" + abc,
		"01" + primary + abc,
		"02 01 01 04" + abc,
		"03" + primary + "01 01 04" + abc,
		"04" + ofBib + abc,
		"05" + primary + ofBib + abc,
		"06 01 01 04" + ofBib + abc,
		"07" + primary + "01 01 04" + ofBib + abc,
	} {
		x := api.Bib{Targets: []uint64{1}, Source: ipn(1, 2), Scope: scope, Tags: [][]byte{tagOf(key(), unhex(t, plain))}}
		want := put(base(), 9, 0, wire(x))
		if got := must(t, ask(scope, 1)); !same(got, want) {
			t.Errorf("scope %d: %v, not %v", scope, got, want)
		}
	}
}

// lists answers lists of the base's blocks that may be targets.
func lists() [][]uint64 {
	return [][]uint64{{0}, {1}, {2}, {4}, {300}, {1, 0}, {0, 1}, {1, 2, 4}, {300, 2}, {0, 1, 2, 4, 300}, {300, 4, 2, 1, 0}}
}

// keys answers keys of the lengths at which something changes.
func keys() [][]byte {
	l := [][]byte{nil, {}, {0}}
	for _, size := range []int{1, 2, 31, 32, 33, 63, 64, 65, 66, 127, 128, 129, 4096} {
		l = append(l, row(size, size))
	}
	return l
}

// TestSignOfAll asks with each scope, targets, sources, keys and numbers.
func TestSignOfAll(t *testing.T) {
	for scope := range 8 {
		for _, targets := range lists() {
			for _, source := range sources() {
				a := ask(scope, targets...)
				a.source = source
				signedRight(t, a)
			}
			for _, key := range keys() {
				a := ask(scope, targets...)
				a.key = key
				if errno := signedRight(t, a); errno != api.OK {
					t.Errorf("%v: %d", a, errno)
				}
			}
			for _, number := range append(edges(), 3, 5, 6, 9, 11, 299, 301) {
				a := ask(scope, targets...)
				a.number = number
				want := api.OK
				if number <= 1 {
					want = api.ErrBundle
				}
				if errno := signedRight(t, a); errno != want {
					t.Errorf("%v: %d, not %d", a, errno, want)
				}
			}
		}
	}
}

// TestSignOfKeys has tags reckoned elsewhere, of keys of no byte, of 64 and of 65.
func TestSignOfKeys(t *testing.T) {
	for size, tag := range map[int]string{
		0:  "b941b1eeb789d14280527316304054565d2dacc5bcf8bc8cbeb0fc8f64e6f926",
		64: "367c5aa5f8a6e40d6e6577e6638bda8e89c4b3e997d5902a8c2d35437f8c6a8f",
		65: "7629cb22dab779f596f8ca0a9680fd54b3436b03cebf9f032ad613876ca60d0c",
	} {
		a := ask(0, 1)
		a.key = make([]byte, size)
		for i := range a.key {
			a.key[i] = byte(i + 1)
		}
		x, errno := Read(must(t, a).Blocks[3].Data)
		if errno != api.OK || len(x.Tags) != 1 || !bytes.Equal(x.Tags[0], unhex(t, tag)) {
			t.Errorf("%v: %v, %d", a, x, errno)
		}
	}
}

// TestSignOfCounts: 1 to 15 targets, and of more and of none the error of Data.
func TestSignOfCounts(t *testing.T) {
	for blocks := 1; blocks <= 16; blocks++ {
		for n := range blocks + 2 {
			a := ask(7)
			a.b.Blocks, a.number = many(blocks), 99
			for target := range uint64(n) {
				a.targets = append(a.targets, target)
			}
			want := api.OK
			switch {
			case n == 0 || n > 15:
				want = api.ErrTarget
			case blocks == 16:
				want = api.ErrBundle
			}
			if errno := signedRight(t, a); errno != want {
				t.Errorf("%d blocks, %d targets: %d, not %d", blocks, n, errno, want)
			}
			if n > 15 {
				continue
			}
			slices.Reverse(a.targets)
			signedRight(t, a)
			a.targets = append(a.targets, uint64(blocks+1))
			refusedSign(t, a, api.ErrTarget)
		}
	}
	refusedSign(t, ask(7), api.ErrTarget)
}

// TestSignOfManyTargets: it ends on long lists.
func TestSignOfManyTargets(t *testing.T) {
	a := ask(7, make([]uint64, 1<<23)...)
	refusedSign(t, a, api.ErrTarget)
	for i := range a.targets {
		a.targets[i] = uint64(i)
	}
	refusedSign(t, a, api.ErrTarget)
	a.b.Crc = 3
	refusedSign(t, a, api.ErrBundle)
	a.b.Flags = api.FlagFragment
	refusedSign(t, a, api.ErrFrag)
	a = ask(7, 1)
	a.key = make([]byte, 1<<22)
	signedRight(t, a)
}

// TestSignOfTargetsThatAreNone: one of several is no block's, one of BlkBib, or one that stands twice.
func TestSignOfTargetsThatAreNone(t *testing.T) {
	inner := must(t, ask(7, 1))
	for scope := range 8 {
		for place := range 5 {
			for _, target := range []uint64{3, 5, 9, 10, 11, 299, 301, 1 << 32, 1<<32 + 1, math.MaxUint64} {
				targets := []uint64{0, 1, 2, 4, 300}
				a := ask(scope, targets...)
				a.number = 10
				a.targets[place] = target
				refusedSign(t, a, api.ErrTarget)
				// 9 is there now, but of BlkBib.
				a.b = inner
				refusedSign(t, a, api.ErrTarget)
				signedRight(t, a)
			}
			for twin := range place {
				a := ask(scope, 0, 1, 2, 4, 300)
				a.targets[place] = a.targets[twin]
				refusedSign(t, a, api.ErrTarget)
			}
		}
		refusedSign(t, ask(scope, 9), api.ErrTarget)
		a := ask(scope, 1)
		a.b, a.number = inner, 10
		if errno := signedRight(t, a); errno != api.OK {
			t.Errorf("%v: %d", a, errno)
		}
	}
}

func TestSignOfScopesAndSourcesThatAreNone(t *testing.T) {
	for _, targets := range append(lists(), nil) {
		for _, scope := range []int{-1, -7, -8, math.MinInt, 8, 9, 15, 256, 263, 1 << 32, 1<<32 + 7, math.MaxInt} {
			refusedSign(t, ask(scope, targets...), api.ErrTarget)
		}
		for _, source := range append(noSources(), odd()...) {
			a := ask(7, targets...)
			a.source = source
			refusedSign(t, a, api.ErrTarget)
		}
	}
}

// TestSignOfNumbersThatAreThere: no block may have the new one's number.
func TestSignOfNumbersThatAreThere(t *testing.T) {
	for _, targets := range lists() {
		for _, number := range []uint64{0, 1, 2, 4, 300} {
			a := ask(7, targets...)
			a.number = number
			refusedSign(t, a, api.ErrBundle)
			signedRight(t, a)
		}
	}
	a := ask(7, 1)
	a.b = must(t, a)
	refusedSign(t, a, api.ErrBundle)
}

// TestSignErrorsInOrder: what Plain says of any target is told ahead of Data's error, that one ahead of Put's.
func TestSignErrorsInOrder(t *testing.T) {
	full := func(b *api.Bundle) { b.Blocks = many(16) }
	for i, change := range refusable() {
		for _, targets := range [][]uint64{{1}, {77}, {1, 77}, {1, 1}, {9}, make([]uint64, 17)} {
			for _, number := range []uint64{9, 1, 0} {
				for _, scope := range []int{0, 7, 8, -1} {
					for _, source := range []api.Eid{ipn(1, 2), dtn(""), {}} {
						a := asked{b: with(base(), change), targets: targets, number: number, scope: scope, source: source}
						if errno := bundle.Check(a.b); errno != api.ErrBundle {
							t.Fatalf("change %d: Check = %d", i, errno)
						}
						refusedSign(t, a, api.ErrBundle)
						a.b.Flags |= api.FlagFragment
						refusedSign(t, a, api.ErrFrag)
						// Without a target there is nothing that Plain says.
						a.targets = nil
						refusedSign(t, a, api.ErrTarget)
					}
				}
			}
		}
	}
	for _, c := range []struct {
		a    asked
		want api.Errno
	}{
		{asked{b: with(base(), full), targets: []uint64{1}, number: 99, source: ipn(1, 2)}, api.ErrBundle},
		{asked{b: with(base(), full), targets: []uint64{17}, number: 99, source: ipn(1, 2)}, api.ErrTarget},
		{asked{b: with(base(), full), targets: []uint64{1, 1}, number: 99, source: ipn(1, 2)}, api.ErrTarget},
		{asked{b: with(base(), full), targets: []uint64{1}, number: 99, source: dtn("")}, api.ErrTarget},
		{asked{b: with(base(), full), targets: []uint64{1}, number: 99, source: ipn(1, 2), scope: 8}, api.ErrTarget},
		{asked{b: with(base(), full), targets: nil, number: 99, source: ipn(1, 2)}, api.ErrTarget},
		{asked{b: base(), targets: []uint64{1}, number: 1, source: dtn("")}, api.ErrTarget},
		{asked{b: base(), targets: []uint64{1, 1}, number: 0, source: ipn(1, 2)}, api.ErrTarget},
		{asked{b: base(), targets: []uint64{5}, number: 0, source: ipn(1, 2)}, api.ErrTarget},
		{asked{b: base(), targets: []uint64{1}, number: 2, source: ipn(1, 2), scope: -1}, api.ErrTarget},
	} {
		refusedSign(t, c.a, c.want)
		signedRight(t, c.a)
	}
}

// TestSignOfLongBundles: how long all is, is not asked.
func TestSignOfLongBundles(t *testing.T) {
	a := ask(7, 0, 1, 2, 300)
	for i := range a.b.Blocks {
		a.b.Blocks[i].Data = row(4096, i)
	}
	signedRight(t, a)
	if _, errno := bundle.Encode(must(t, a)); errno != api.ErrBundle {
		t.Errorf("it is not too long: %d", errno)
	}
}

// TestSignAgainstModel holds Sign against the model, of questions of many kinds.
func TestSignAgainstModel(t *testing.T) {
	c := rand.New(rand.NewSource(102))
	told := map[api.Errno]int{}
	wrong := refusable()
	for range 20000 {
		a := ask(c.Intn(8))
		a.b = with(a.b, func(b *api.Bundle) {
			if c.Intn(3) == 0 {
				b.Blocks = many(1 + c.Intn(16))
			}
			x := &b.Blocks[c.Intn(len(b.Blocks))]
			x.Flags, x.Crc, x.Data = c.Uint64()>>c.Intn(64), c.Intn(3), row(c.Intn(40), c.Int())
			b.Crc, b.Life = c.Intn(3), c.Uint64()>>c.Intn(64)
		})
		if c.Intn(3) == 0 {
			a.b, _ = ask(7, 1).sign()
			a.number = 9 + uint64(c.Intn(2))
		}
		for range 1 + c.Intn(4) {
			a.targets = append(a.targets, a.b.Blocks[c.Intn(len(a.b.Blocks))].Number*uint64(min(c.Intn(8), 1)))
		}
		if c.Intn(15) == 0 {
			a.targets = append(a.targets, uint64(c.Intn(20)))
		}
		if c.Intn(15) == 0 {
			a.source = noSources()[c.Intn(len(noSources()))]
		}
		if c.Intn(15) == 0 {
			a.number = uint64(c.Intn(10))
		}
		if c.Intn(15) == 0 && len(a.b.Blocks) > 3 {
			wrong[c.Intn(len(wrong))](&a.b)
		}
		if c.Intn(30) == 0 {
			a.b.Flags |= api.FlagFragment
		}
		a.key = row(c.Intn(100), c.Int())
		told[signedRight(t, a)]++
	}
	for _, errno := range []api.Errno{api.OK, api.ErrBundle, api.ErrFrag, api.ErrTarget} {
		if told[errno] < 500 {
			t.Errorf("%d was told but %d times", errno, told[errno])
		}
	}
}
