package bib

import (
	"bytes"
	"math"
	"slices"
	"testing"

	"fairlead/api"
	"fairlead/bundle"
)

// P10.5

// TestSignedIsVerified: with the same key; not with another; on the wire and back, too.
func TestSignedIsVerified(t *testing.T) {
	for scope := range 8 {
		for _, targets := range lists() {
			for _, key := range keys() {
				a := ask(scope, targets...)
				a.key = key
				b := must(t, a)
				want := api.Bib{Targets: targets, Source: a.source, Scope: scope}
				got, errno := Verify(b, 9, key)
				want.Tags = got.Tags
				if errno != api.OK || !sameBib(got, want) || len(got.Tags) != len(targets) {
					t.Fatalf("%v: %v, %d", a, got, errno)
				}
				for _, target := range targets {
					covers(t, b, target, 9)
				}
				w, errno := bundle.Encode(b)
				back, again := bundle.Decode(w)
				if errno != api.OK || again != api.OK || !same(back, b) {
					t.Fatalf("%v: %v, %d, %d", a, back, errno, again)
				}
				verifies(t, back, 9, key, api.OK)
			}
		}
	}
}

// TestOfOtherKeys: but for noughts behind, up to 64 bytes, and digests, each key is another one.
func TestOfOtherKeys(t *testing.T) {
	l := [][]byte{key(), key()[1:], append(key(), 1), append([]byte{0}, key()...)}
	for bit := range 8 * len(key()) {
		k := key()
		k[bit/8] ^= 1 << (bit % 8)
		l = append(l, k)
	}
	for _, size := range []int{1, 63, 64, 65, 66} {
		l = append(l, row(size, size))
	}
	l = append(l, nil)
	for i, k := range l {
		a := ask(7, 1, 0)
		a.key = k
		b := must(t, a)
		for j, other := range l {
			want := api.ErrTag
			if i == j {
				want = api.OK
			}
			if _, errno := Verify(b, 9, other); errno != want {
				t.Errorf("signed by %x, verified by %x: %d", k, other, errno)
			}
		}
	}
	// Up to 64 bytes noughts behind make no other key; beyond they do.
	b := must(t, ask(7, 1))
	for size := len(key()); size < 80; size++ {
		want := api.OK
		if size > 64 {
			want = api.ErrTag
		}
		verifies(t, b, 9, append(key(), make([]byte, size-len(key()))...), want)
	}
}

// change is something of a signed bundle that is otherwise, and what of a plaintext it belongs to.
type change struct {
	name   string
	part   byte
	change func(b *api.Bundle, at int) // at is the target's place
}

// What a change belongs to.
const (
	ofNothing = ' ' // that is within a plaintext
	ofPrimary = 'p'
	ofHead    = 'h' // the target's Type and Flags
	ofData    = 'd' // the target's Data
	ofBib     = 'b'
)

// counts tells whether a plaintext of a target under a scope shows what is otherwise.
func counts(part byte, target uint64, scope int) bool {
	switch part {
	case ofPrimary:
		return target == 0 || scope&1 != 0
	case ofHead:
		return target != 0 && scope&2 != 0
	case ofData:
		return target != 0
	case ofBib:
		return scope&4 != 0
	}
	return false
}

// ofThePrimary answers changes of the primary block, of one field each.
func ofThePrimary() []change {
	var l []change
	add := func(name string, f func(b *api.Bundle)) {
		l = append(l, change{name, ofPrimary, func(b *api.Bundle, _ int) { f(b) }})
	}
	for _, kind := range []int{0, 1} {
		add("Crc", func(b *api.Bundle) { b.Crc = kind })
	}
	for bit := 1; bit < 64; bit++ {
		add("Flags", func(b *api.Bundle) { b.Flags ^= 1 << bit })
	}
	for _, e := range []api.Eid{ipn(3, 8), ipn(7, 3), ipn(3, 0), dtn("//3/7"), dtn("//a/")} {
		add("Dest", func(b *api.Bundle) { b.Dest = e })
		add("Source", func(b *api.Bundle) { b.Source = e })
		add("Report", func(b *api.Bundle) { b.Report = e })
	}
	add("Dest and Source", func(b *api.Bundle) { b.Dest, b.Source = b.Source, b.Dest })
	for bit := range 64 {
		add("Time", func(b *api.Bundle) { b.Time ^= 1 << bit })
		add("Seq", func(b *api.Bundle) { b.Seq ^= 1 << bit })
		add("Life", func(b *api.Bundle) { b.Life ^= 1 << bit })
	}
	add("Time and Seq", func(b *api.Bundle) { b.Time, b.Seq = b.Seq, b.Time })
	return l
}

// ofBlocks answers changes of the target, of the integrity block, and of all else, of one field each.
func ofBlocks() []change {
	l := []change{
		{"nothing", ofNothing, func(*api.Bundle, int) {}},
		{"Crc of all blocks", ofNothing, func(b *api.Bundle, _ int) {
			for i := range b.Blocks {
				b.Blocks[i].Crc = (b.Blocks[i].Crc + 1) % 3
			}
		}},
		{"the order of blocks", ofNothing, func(b *api.Bundle, _ int) { slices.Reverse(b.Blocks[:len(b.Blocks)-1]) }},
		{"other blocks", ofNothing, func(b *api.Bundle, at int) {
			for i, x := range b.Blocks {
				if i != at && x.Type != api.BlkPayload && x.Type != api.BlkBib {
					b.Blocks[i] = api.Block{Type: 193, Number: x.Number + 1000, Flags: 77, Crc: 1, Data: row(77, 7)}
				}
			}
		}},
		{"another block", ofNothing, func(b *api.Bundle, _ int) {
			b.Blocks = slices.Insert(b.Blocks, 0, api.Block{Type: 192, Number: 55, Data: []byte("new")})
		}},
		{"another integrity block", ofNothing, func(b *api.Bundle, _ int) {
			b.Blocks = slices.Insert(b.Blocks, 0, api.Block{Type: api.BlkBib, Number: 55, Data: []byte("new")})
		}},
		{"the integrity block's Number", ofBib, func(b *api.Bundle, _ int) { b.Blocks[3].Number = 10 }},
	}
	for bit := range 64 {
		l = append(l,
			change{"the integrity block's Flags", ofBib, func(b *api.Bundle, _ int) { b.Blocks[3].Flags ^= 1 << bit }},
			change{"the target's Flags", ofHead, func(b *api.Bundle, at int) { b.Blocks[at].Flags ^= 1 << bit }},
		)
	}
	for _, data := range [][]byte{{0}, {4}, {0, 5}, {5, 5}, {0x41, 5}, []byte("ab"), []byte("abd"), []byte("abcd"), []byte("cba"), row(23, 1), row(24, 1), row(3000, 1)} {
		l = append(l, change{"the target's Data", ofData, func(b *api.Bundle, at int) { b.Blocks[at].Data = data }})
	}
	return l
}

// numberNow answers the number that the integrity block has, if it is not 55.
func numberNow(b api.Bundle) uint64 {
	at := slices.IndexFunc(b.Blocks, func(x api.Block) bool { return x.Type == api.BlkBib && x.Number != 55 })
	return b.Blocks[at].Number
}

// TestOfEachChange: with a changed target, or a changed part in scope, what was signed is not verified; with all else changed it is.
func TestOfEachChange(t *testing.T) {
	l := append(ofThePrimary(), ofBlocks()...)
	for _, target := range []uint64{0, 1, 2, 4, 300} {
		for scope := range 8 {
			signed := must(t, ask(scope, target))
			at := max(bundle.Find(signed, target), 0)
			for _, c := range l {
				b := with(signed, func(b *api.Bundle) { c.change(b, at) })
				want := api.OK
				if counts(c.part, target, scope) {
					want = api.ErrTag
				}
				if _, errno := Verify(b, numberNow(b), key()); errno != want {
					t.Errorf("%s otherwise, target %d, scope %d: %d, not %d", c.name, target, scope, errno, want)
				}
			}
		}
	}
}

// TestOfTypesAndNumbers: a target of another Type is another one with 2 in scope; of another Number it is none.
func TestOfTypesAndNumbers(t *testing.T) {
	for scope := range 8 {
		signed := must(t, ask(scope, 300))
		want := api.OK
		if scope&2 != 0 {
			want = api.ErrTag
		}
		for _, kind := range []uint64{2, 12, 191, 193, 255} {
			verifies(t, with(signed, func(b *api.Bundle) { b.Blocks[2].Type = kind }), 9, key(), want)
		}
		for _, number := range []uint64{3, 299, 301, 1<<32 + 300, math.MaxUint64} {
			verifies(t, with(signed, func(b *api.Bundle) { b.Blocks[2].Number = number }), 9, key(), api.ErrTarget)
		}
		verifies(t, with(signed, func(b *api.Bundle) { b.Blocks[2].Type = api.BlkBib }), 9, key(), api.ErrTarget)
		gone, _ := bundle.Drop(signed, 300)
		verifies(t, gone, 9, key(), api.ErrTarget)
	}
}

// TestOfOneOfSeveral: where one target of several is changed, the block is not accepted.
func TestOfOneOfSeveral(t *testing.T) {
	for scope := range 8 {
		for _, targets := range [][]uint64{{0, 1, 2, 4, 300}, {300, 4, 2, 1, 0}, {1, 300}} {
			signed := must(t, ask(scope, targets...))
			for i, x := range signed.Blocks {
				if x.Type == api.BlkBib {
					continue
				}
				want := api.OK
				if slices.Contains(targets, x.Number) {
					want = api.ErrTag
				}
				verifies(t, with(signed, func(b *api.Bundle) { b.Blocks[i].Data = append(b.Blocks[i].Data, 0) }), 9, key(), want)
			}
			want := api.OK
			if scope&1 != 0 || slices.Contains(targets, 0) {
				want = api.ErrTag
			}
			verifies(t, with(signed, func(b *api.Bundle) { b.Seq++ }), 9, key(), want)
		}
	}
}

// TestOfTwoBlocks: two integrity blocks by two keys, of targets of their own and of one of both.
func TestOfTwoBlocks(t *testing.T) {
	keyA, keyB := []byte("a"), []byte("b")
	for scope := range 8 {
		b := must(t, asked{b: base(), targets: []uint64{1, 2}, number: 9, scope: scope, source: ipn(1, 2), key: keyA})
		first := cloned(b)
		b = must(t, asked{b: b, targets: []uint64{4, 1}, number: 5, scope: 7 - scope, source: dtn("//b/"), key: keyB})
		if len(b.Blocks) != 6 || b.Blocks[3].Number != 9 || b.Blocks[4].Number != 5 || b.Blocks[5].Number != 1 {
			t.Fatalf("the blocks of %v", b)
		}
		if !bytes.Equal(first.Blocks[3].Data, b.Blocks[3].Data) {
			t.Errorf("the first integrity block was changed: %v", b)
		}
		verifies(t, b, 9, keyA, api.OK)
		verifies(t, b, 5, keyB, api.OK)
		verifies(t, b, 9, keyB, api.ErrTag)
		verifies(t, b, 5, keyA, api.ErrTag)
		covers(t, b, 1, 9, 5)
		covers(t, b, 2, 9)
		covers(t, b, 4, 5)
		covers(t, b, 0)
		// A target of one alone is nothing to the other.
		age := with(b, func(b *api.Bundle) { b.Blocks[1].Data = []byte{6} })
		verifies(t, age, 9, keyA, api.OK)
		verifies(t, age, 5, keyB, api.ErrTag)
		both := with(b, func(b *api.Bundle) { b.Blocks[5].Data[0]++ })
		verifies(t, both, 9, keyA, api.ErrTag)
		verifies(t, both, 5, keyB, api.ErrTag)
		// Nor is one block to the other.
		gone, errno := bundle.Drop(b, 9)
		if errno != api.OK {
			t.Fatal(errno)
		}
		verifies(t, gone, 5, keyB, api.OK)
		verifies(t, gone, 9, keyA, api.ErrTarget)
	}
}

// TestOfForgedContents: a scope or a source that is told otherwise. The source is in no plaintext.
func TestOfForgedContents(t *testing.T) {
	for scope := range 8 {
		for _, target := range []uint64{0, 1, 300} {
			signed := must(t, ask(scope, target))
			x, errno := Read(signed.Blocks[3].Data)
			if errno != api.OK {
				t.Fatal(errno)
			}
			for other := range 8 {
				want := api.ErrTag
				if other == scope {
					want = api.OK
				}
				y := changed(x, func(x *api.Bib) { x.Scope = other })
				verifies(t, with(signed, func(b *api.Bundle) { b.Blocks[3].Data = wire(y) }), 9, key(), want)
			}
			y := changed(x, func(x *api.Bib) { x.Source = dtn("//other/") })
			verifies(t, with(signed, func(b *api.Bundle) { b.Blocks[3].Data = wire(y) }), 9, key(), api.OK)
			y = changed(x, func(x *api.Bib) { x.Targets[0] = 2 })
			verifies(t, with(signed, func(b *api.Bundle) { b.Blocks[3].Data = wire(y) }), 9, key(), api.ErrTag)
		}
	}
}

// The chapter's example.
func TestExample(t *testing.T) {
	b, errno := Sign(base(), []uint64{1}, 9, 7, ipn(1, 2), key())
	if errno != api.OK || len(b.Blocks) != 5 || b.Blocks[3].Type != 11 || b.Blocks[4].Type != api.BlkPayload {
		t.Errorf("Sign = %v, %d", b, errno)
	}
	if x, errno := Verify(b, 9, key()); errno != api.OK || x.Scope != 7 || !slices.Equal(x.Targets, []uint64{1}) {
		t.Errorf("Verify = %v, %d", x, errno)
	}
}
