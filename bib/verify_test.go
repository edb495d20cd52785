package bib

import (
	"bytes"
	"errors"
	"math"
	"math/rand"
	"slices"
	"testing"

	"fairlead/api"
	"fairlead/bundle"
	"fairlead/ippt"
)

// P10.3

// tagged answers contents for a block of that number and flags of a bundle, with the tags of targets of which there are plaintexts, and others.
func tagged(b api.Bundle, number, flags uint64, scope int, key []byte, targets ...uint64) api.Bib {
	x := api.Bib{Targets: targets, Source: ipn(1, 2), Scope: scope}
	for i, target := range targets {
		tag := row(32, i)
		if plain, errno := ippt.Plain(b, target, scope, 11, number, flags); errno == api.OK {
			tag = tagOf(key, plain)
		}
		x.Tags = append(x.Tags, tag)
	}
	return x
}

// TestVerifyByHand: blocks with tags that were reckoned elsewhere.
func TestVerifyByHand(t *testing.T) {
	for _, c := range []struct {
		w    string
		want api.Bib
	}{
		{
			"81 01 01 01 82 02 82 01 02 82 82 01 05 82 03 07 81 81 82 01 5820" + tagOf7And1,
			api.Bib{Targets: []uint64{1}, Source: ipn(1, 2), Scope: 7, Tags: [][]byte{unhex(t, tagOf7And1)}},
		},
		{
			"82 02 01 01 01 82 01 65 2f2f612f62 82 82 01 05 82 03 00 82 81 82 01 5820" + tagOf0And2 + "81 82 01 5820" + tagOf0And1,
			api.Bib{Targets: []uint64{2, 1}, Source: dtn("//a/b"), Scope: 0, Tags: [][]byte{unhex(t, tagOf0And2), unhex(t, tagOf0And1)}},
		},
		{
			"83 04 00 01 01 01 82 02 82 09 00 82 82 01 05 82 03 05 83 81 82 01 5820" + tagOf5And4 + "81 82 01 5820" + tagOf5And0 + "81 82 01 5820" + tagOf5And1,
			api.Bib{Targets: []uint64{4, 0, 1}, Source: ipn(9, 0), Scope: 5, Tags: [][]byte{unhex(t, tagOf5And4), unhex(t, tagOf5And0), unhex(t, tagOf5And1)}},
		},
	} {
		b := signedBy(t, c.w)
		if got, errno := Verify(b, 9, key()); errno != api.OK || !sameBib(got, c.want) {
			t.Errorf("Verify(%v) = %v, %d, not %v", b, got, errno, c.want)
		}
		verifies(t, b, 9, []byte("key of tenant 2"), api.ErrTag)
		// Two tags in each other's place.
		if len(c.want.Tags) > 1 {
			x := changed(c.want, func(x *api.Bib) { x.Tags[0], x.Tags[1] = x.Tags[1], x.Tags[0] })
			verifies(t, put(base(), 9, 0, wire(x)), 9, key(), api.ErrTag)
		}
	}
}

// TestVerifyOfNumbers: of no block, and of blocks of another type.
func TestVerifyOfNumbers(t *testing.T) {
	signed := must(t, ask(7, 1))
	for _, number := range append(edges(), 2, 4, 8, 10, 11, 300, 1<<32+9) {
		verifies(t, signed, number, key(), api.ErrTarget)
	}
	verifies(t, signed, 9, key(), api.OK)
	// Of another type, whatever its Data is.
	for kind := uint64(2); kind < 256; kind++ {
		b := with(signed, func(b *api.Bundle) { b.Blocks[3].Type = kind })
		want := api.ErrTarget
		switch kind {
		case api.BlkBib:
			want = api.OK
		case api.BlkHops, api.BlkAge:
			want = api.ErrBundle
		}
		verifies(t, b, 9, key(), want)
	}
	payload := with(signed, func(b *api.Bundle) { b.Blocks[4].Data = b.Blocks[3].Data })
	verifies(t, payload, 1, key(), api.ErrTarget)
}

// TestVerifyOfWhatReadRefuses: Data that are none.
func TestVerifyOfWhatReadRefuses(t *testing.T) {
	w := must(t, ask(7, 1)).Blocks[3].Data
	for n := range w {
		verifies(t, put(base(), 9, 0, w[:n]), 9, key(), api.ErrTarget)
	}
	verifies(t, put(base(), 9, 0, nil), 9, key(), api.ErrTarget)
	verifies(t, put(base(), 9, 0, append(bytes.Clone(w), 0)), 9, key(), api.ErrTarget)
	verifies(t, put(base(), 9, 0, append(bytes.Clone(w), w...)), 9, key(), api.ErrTarget)
	verifies(t, put(base(), 9, 0, w), 9, key(), api.OK)
	for _, x := range nones() {
		if w := wire(x); len(w) <= 4096 {
			verifies(t, put(base(), 9, 0, w), 9, key(), api.ErrTarget)
		}
	}
}

// TestVerifyOfFlags: with 4 in scope a tag is made over the block's Flags, and else not; the other fields of the block are nobody's.
func TestVerifyOfFlags(t *testing.T) {
	for scope := range 8 {
		for _, targets := range lists() {
			for _, flags := range edges() {
				b := put(base(), 9, flags, wire(tagged(base(), 9, flags, scope, key(), targets...)))
				verifies(t, b, 9, key(), api.OK)
				for crc := range 3 {
					b.Blocks[3].Crc = crc
					verifies(t, b, 9, key(), api.OK)
				}
				b.Blocks[3].Flags ^= 1
				want := api.OK
				if scope&4 != 0 {
					want = api.ErrTag
				}
				verifies(t, b, 9, key(), want)
			}
		}
	}
}

// TestVerifyOfTurnedTags: a tag is what it is, in each bit.
func TestVerifyOfTurnedTags(t *testing.T) {
	for _, targets := range [][]uint64{{1}, {1, 0, 300}} {
		x := tagged(base(), 9, 0, 7, key(), targets...)
		verifies(t, put(base(), 9, 0, wire(x)), 9, key(), api.OK)
		for i := range targets {
			for bit := range 256 {
				y := changed(x, func(x *api.Bib) { x.Tags[i][bit/8] ^= 1 << (bit % 8) })
				verifies(t, put(base(), 9, 0, wire(y)), 9, key(), api.ErrTag)
			}
			for _, tag := range [][]byte{make([]byte, 32), bytes.Repeat([]byte{0xff}, 32), row(32, 1)} {
				y := changed(x, func(x *api.Bib) { x.Tags[i] = tag })
				verifies(t, put(base(), 9, 0, wire(y)), 9, key(), api.ErrTag)
			}
		}
	}
}

// TestVerifyOfTargets: each target's error is told in order, what Plain says of it ahead of its tag.
func TestVerifyOfTargets(t *testing.T) {
	const fine, turned, absent, ofBib = 0, 1, 2, 3
	inner := must(t, ask(7, 1))
	for _, scope := range []int{0, 1, 2, 4, 7} {
		for mask := range 4 * 4 * 4 {
			targets, want := []uint64{300, 0, 2}, api.OK
			states := []int{mask % 4, mask / 4 % 4, mask / 16}
			for i, state := range states {
				switch state {
				case absent:
					targets[i] = uint64(70 + i)
				case ofBib:
					// Of one that is there, of the block itself, and of one that is not there.
					targets[i] = uint64(9 + i)
				}
				if want != api.OK {
					continue
				}
				want = []api.Errno{api.OK, api.ErrTag, api.ErrTarget, api.ErrTarget}[state]
			}
			x := tagged(inner, 10, 0, scope, key(), targets...)
			for i, state := range states {
				if state == turned {
					x.Tags[i][31] ^= 1
				}
			}
			verifies(t, put(inner, 10, 0, wire(x)), 10, key(), want)
		}
	}
}

// TestVerifyErrorsInOrder: what is wrong with the bundle is told ahead of all else.
func TestVerifyErrorsInOrder(t *testing.T) {
	good, turned := must(t, ask(7, 1)), must(t, ask(7, 1))
	turned.Blocks[3].Data[len(turned.Blocks[3].Data)-1] ^= 1
	absent := put(base(), 9, 0, wire(made(70, 2)))
	unread := put(base(), 9, 0, []byte("bib"))
	for _, c := range []struct {
		b    api.Bundle
		want api.Errno
	}{{good, api.OK}, {turned, api.ErrTag}, {absent, api.ErrTarget}, {unread, api.ErrTarget}, {base(), api.ErrTarget}} {
		verifies(t, c.b, 9, key(), c.want)
		for i, change := range refusable() {
			for _, number := range []uint64{9, 0, 1, 2, 77, math.MaxUint64} {
				b := with(c.b, change)
				if errno := bundle.Check(b); errno != api.ErrBundle {
					t.Fatalf("change %d: Check = %d", i, errno)
				}
				verifies(t, b, number, key(), api.ErrBundle)
				b.Flags |= api.FlagFragment
				verifies(t, b, number, key(), api.ErrFrag)
			}
		}
	}
}

// TestVerifyOfMany: bundles of 16 blocks, all of them but the integrity block its targets, or all integrity blocks but one.
func TestVerifyOfMany(t *testing.T) {
	a := ask(7)
	a.b.Blocks, a.number = many(15), 99
	for target := range uint64(15) {
		a.targets = append(a.targets, target+1)
	}
	b := must(t, a)
	verifies(t, b, 99, key(), api.OK)
	for i := range b.Blocks {
		if b.Blocks[i].Type != api.BlkBib {
			verifies(t, with(b, func(b *api.Bundle) { b.Blocks[i].Flags ^= 2 }), 99, key(), api.ErrTag)
		}
	}
	b = with(base(), func(b *api.Bundle) { b.Blocks = many(1) })
	for i := range 15 {
		b = must(t, asked{b: b, targets: []uint64{1, 0}, number: uint64(50 + i), scope: i % 8, source: ipn(1, 2), key: row(i, i)})
	}
	for i := range 15 {
		for j := range 15 {
			want := api.ErrTag
			if i == j {
				want = api.OK
			}
			verifies(t, b, uint64(50+i), row(j, j), want)
		}
	}
}

// TestVerifyAgainstModel holds Verify against the model, of bundles that were signed, or not, and changed.
func TestVerifyAgainstModel(t *testing.T) {
	c := rand.New(rand.NewSource(103))
	told := map[api.Errno]int{}
	wrong := refusable()
	for range 20000 {
		b, number := base(), uint64(9)
		l := lists()[c.Intn(len(lists()))]
		if c.Intn(6) == 0 {
			l = append(slices.Clone(l), uint64(50+c.Intn(3)))
		}
		flags := uint64(c.Intn(3))
		b = put(b, number, flags, wire(tagged(b, number, flags, c.Intn(8), key(), l...)))
		x := &b.Blocks[c.Intn(len(b.Blocks))]
		switch c.Intn(12) {
		case 0:
			x.Flags ^= 1 << c.Intn(64)
		case 1:
			x.Crc = c.Intn(3)
		case 2:
			x.Data = row(c.Intn(5), c.Int())
		case 3:
			x.Number, number = 20, number+11*uint64(c.Intn(2))
		case 4:
			b.Blocks[3].Data[c.Intn(len(b.Blocks[3].Data))] ^= 1 << c.Intn(8)
		case 5:
			b.Time++
		case 6:
			b.Crc = c.Intn(3)
		case 7:
			number = uint64(c.Intn(12))
		case 8:
			wrong[c.Intn(len(wrong))](&b)
		case 9:
			b.Flags |= 1 << c.Intn(4)
		}
		told[verifiedRight(t, b, number, key())]++
	}
	for _, errno := range []api.Errno{api.OK, api.ErrBundle, api.ErrFrag, api.ErrTarget, api.ErrTag} {
		if told[errno] < 200 {
			t.Errorf("%d was told but %d times", errno, told[errno])
		}
	}
}

// Why a block is not accepted is wrapped, and found.
func TestWhyIsFound(t *testing.T) {
	turned := must(t, ask(7, 1))
	turned.Blocks[3].Data[len(turned.Blocks[3].Data)-1] ^= 1
	for _, c := range []struct {
		b      api.Bundle
		number uint64
		why    error
		want   api.Errno
		text   string
	}{
		{turned, 9, errTag, api.ErrTag, "bib: a target to verify: a tag that is wrong"},
		{turned, 8, errTarget, api.ErrTarget, "bib: a number of no block: no integrity block"},
		{turned, 2, errTarget, api.ErrTarget, "bib: a block of another type: no integrity block"},
		{put(base(), 9, 0, nil), 9, errTarget, api.ErrTarget, "bib: an item too few: no integrity block"},
		{put(base(), 9, 0, make([]byte, 6)), 9, errTarget, api.ErrTarget, "bib: no target, or too many: no integrity block"},
		{put(base(), 9, 0, append(wire(made(1, 1)), 0)), 9, errTarget, api.ErrTarget, "bib: another form than contents have: no integrity block"},
		{put(base(), 9, 0, wire(made(70, 1))), 9, cause(api.ErrTarget), api.ErrTarget, "bib: a target to verify: error 100"},
		{api.Bundle{Flags: api.FlagFragment}, 9, cause(api.ErrFrag), api.ErrFrag, "bib: the bundle: error 62"},
		{api.Bundle{}, 9, cause(api.ErrBundle), api.ErrBundle, "bib: the bundle: error 60"},
	} {
		_, err := accepted(c.b, c.number, key())
		if err == nil || !errors.Is(err, c.why) || err.Error() != c.text || numberOf(err) != c.want {
			t.Errorf("of %s: %v, not %s", brief(c.b), err, c.text)
		}
	}
	if numberOf(nil) != api.OK || numberOf(errors.New("else")) != api.OK {
		t.Error("of nothing wrong")
	}
}
