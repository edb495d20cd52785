package bundle

import (
	"bytes"
	"math"
	"math/rand"
	"testing"

	"fairlead/api"
	"fairlead/block"
	"fairlead/cbor"
	"fairlead/eid"
)

// A second reader, which asks each part of the primary block by itself, and a second Check, which counts. Decode is held against them.

// model tells in another way than Decode what bytes are.
func model(w []byte) (api.Bundle, api.Errno) {
	b, errno := modelRead(w)
	if errno == api.OK {
		errno = modelCheck(b)
	}
	if errno != api.OK {
		return api.Bundle{}, errno
	}
	return b, api.OK
}

// modelRead reads a bundle, whether it may be or not.
func modelRead(w []byte) (api.Bundle, api.Errno) {
	var b api.Bundle
	if len(w) > 4096 || !bytes.HasPrefix(w, []byte{0x9f}) {
		return b, api.ErrBundle
	}
	x, n, errno := cbor.Decode(w[1:])
	if errno != api.OK {
		return b, errno
	}
	b, errno = modelPrimary(x, w[1:1+n])
	if errno != api.OK {
		return b, errno
	}
	w = w[1+n:]
	for {
		if len(w) == 0 {
			return b, api.ErrShort
		}
		if w[0] == 0xff {
			break
		}
		if len(b.Blocks) > 15 {
			return b, api.ErrBundle
		}
		x, n, errno := block.Decode(w)
		if errno != api.OK {
			return b, errno
		}
		b.Blocks = append(b.Blocks, x)
		w = w[n:]
	}
	if len(w) > 1 {
		return b, api.ErrBundle
	}
	return b, api.OK
}

// modelPrimary reads a primary block's item, whose bytes are w.
func modelPrimary(x api.Item, w []byte) (api.Bundle, api.Errno) {
	var b api.Bundle
	l := x.List
	if x.Kind != api.ItemArray || len(l) != 8 && len(l) != 9 || l[0].Kind != api.ItemUint {
		return b, api.ErrBundle
	}
	if l[0].N != 7 {
		return b, api.ErrVersion
	}
	for _, i := range []int{1, 2, 7} {
		if l[i].Kind != api.ItemUint {
			return b, api.ErrBundle
		}
	}
	for i, e := range []*api.Eid{&b.Dest, &b.Source, &b.Report} {
		var errno api.Errno
		if *e, errno = eid.From(l[3+i]); errno != api.OK {
			return b, api.ErrBundle
		}
	}
	when := l[6]
	if when.Kind != api.ItemArray || len(when.List) != 2 || when.List[0].Kind != api.ItemUint || when.List[1].Kind != api.ItemUint {
		return b, api.ErrBundle
	}
	kind := l[2].N
	switch {
	case kind > 2:
		return b, api.ErrBundle
	case kind == 0 && len(l) != 8:
		return b, api.ErrBundle
	case kind != 0 && (len(l) != 9 || l[8].Kind != api.ItemBytes || uint64(len(l[8].Data)) != 2*kind):
		return b, api.ErrBundle
	}
	if !bytes.Equal(w, sealed(w, kind)) {
		return b, api.ErrCrc
	}
	b.Flags, b.Crc, b.Time, b.Seq, b.Life = l[1].N, int(kind), when.List[0].N, when.List[1].N, l[7].N
	return b, api.OK
}

// modelCheck tells in another way than Check why a bundle may not be.
func modelCheck(b api.Bundle) api.Errno {
	if b.Flags%2 == 1 {
		return api.ErrFrag
	}
	fine := b.Crc >= 0 && b.Crc < 3 && len(b.Blocks) > 0 && len(b.Blocks) < 17
	fine = fine && eid.Check(b.Dest) && eid.Check(b.Source) && eid.Check(b.Report) && eid.Text(b.Dest) != "dtn:none"
	if eid.Text(b.Source) == "dtn:none" {
		fine = fine && b.Flags>>2&1 == 1 && b.Flags>>14&1 == 0 && b.Flags>>16&7 == 0
	}
	numbers, types := map[uint64]int{}, map[uint64]int{}
	for _, x := range b.Blocks {
		fine = fine && block.Check(x)
		numbers[x.Number]++
		types[x.Type]++
	}
	fine = fine && len(numbers) == len(b.Blocks) && types[1] == 1 && b.Blocks[len(b.Blocks)-1].Type == 1
	fine = fine && types[6] < 2 && types[7] < 2 && types[10] < 2
	if !fine {
		return api.ErrBundle
	}
	return api.OK
}

// choice is chance of a rule, so that each run is the same.
type choice struct{ *rand.Rand }

// rare tells one time in n.
func (c choice) rare(n int) bool {
	return c.Intn(n) == 0
}

func (c choice) number() uint64 {
	l := []uint64{0, 1, 2, 3, 23, 24, 255, 256, 65536, math.MaxUint32, 1 << 32, math.MaxUint64}
	return l[c.Intn(len(l))]
}

func (c choice) endpoint() api.Eid {
	switch {
	case c.rare(12):
		return wrongEids()[c.Intn(len(wrongEids()))]
	case c.rare(5):
		return dtn("")
	case c.rare(2):
		return dtn([]string{"//a/", "//a/b", "//n-1/x/y"}[c.Intn(3)])
	}
	return ipn(1+uint64(c.Intn(300)), uint64(c.Intn(300)))
}

func (c choice) flags() uint64 {
	l := []uint64{0, 2, 4, 4, 4, 6, 0x4000, 0x4004, 0x10004, 0x20004, 0x40004, 0x80004, 0x74000}
	n := l[c.Intn(len(l))]
	if c.rare(15) {
		n |= 1
	}
	return n
}

// bundle answers a bundle that may be or not.
func (c choice) bundle() api.Bundle {
	b := api.Bundle{
		Flags: c.flags(), Crc: c.Intn(3), Dest: c.endpoint(), Source: c.endpoint(), Report: c.endpoint(),
		Time: c.number(), Seq: c.number(), Life: c.number(),
	}
	n := c.Intn(5)
	if c.rare(10) {
		n = 13 + c.Intn(5)
	}
	for i := range n {
		types := []uint64{6, 7, 10, 11, 11, 192, 192, 192, 255}
		x := api.Block{Type: types[c.Intn(len(types))], Number: uint64(i + 2), Flags: uint64(c.Intn(30)), Crc: c.Intn(3), Data: row(c.Intn(30))}
		if n > 12 {
			x.Type = 192
		}
		if c.rare(60) {
			x.Number = uint64(c.Intn(4))
		}
		if c.rare(60) {
			x.Type = c.number()
		}
		b.Blocks = append(b.Blocks, x)
	}
	if !c.rare(20) {
		b.Blocks = append(b.Blocks, api.Block{Type: 1, Number: 1, Crc: c.Intn(3), Data: row(c.Intn(40))})
	}
	if len(b.Blocks) > 1 && c.rare(20) {
		i, j := c.Intn(len(b.Blocks)), c.Intn(len(b.Blocks))
		b.Blocks[i], b.Blocks[j] = b.Blocks[j], b.Blocks[i]
	}
	return b
}

// changed answers bytes with one thing otherwise, the primary block's sum sometimes made right again.
func (c choice) changed(w []byte) []byte {
	w = bytes.Clone(w)
	if len(w) < 2 {
		return w
	}
	// Mostly ahead, where the primary block is.
	at := c.Intn(len(w))
	if c.rare(2) {
		at = c.Intn(min(len(w), 40))
	}
	switch c.Intn(7) {
	case 0:
		w[at] ^= 1 << c.Intn(8)
	case 1:
		w[at] = byte(c.Intn(256))
	case 2:
		w = append(w[:at:at], append([]byte{byte(c.Intn(256))}, w[at:]...)...)
	case 3:
		w = append(w[:at:at], w[at+1:]...)
	case 4:
		w = append(w, row(c.Intn(4))...)
	case 5:
		w[1] = []byte{0x87, 0x88, 0x89, 0x8a, 0x9f}[c.Intn(5)]
	case 6:
		w = w[:at]
	}
	return c.mended(w)
}

// mended makes a primary block's sum right, or leaves it.
func (c choice) mended(w []byte) []byte {
	if len(w) == 0 || c.rare(3) {
		return w
	}
	x, n, errno := cbor.Decode(w[1:])
	if errno != api.OK || len(x.List) < 3 || n < 5 {
		return w
	}
	if kind := x.List[2].N; kind < 3 {
		copy(w[1:], sealed(w[1:1+n], kind))
	}
	return w
}

// TestAgainstModel holds Decode against the model, of bytes that are a bundle's, or nearly so.
func TestAgainstModel(t *testing.T) {
	c := choice{rand.New(rand.NewSource(6))}
	told := map[api.Errno]int{}
	for range 40000 {
		w := wire(c.bundle())
		for range c.Intn(3) {
			w = c.changed(w)
		}
		want, wrong := model(w)
		got, errno := Decode(w)
		if errno != wrong || !same(got, want) {
			t.Fatalf("Decode(% x) = %v, %d, not %v, %d", w, got, errno, want, wrong)
		}
		told[errno]++
		if errno != api.OK {
			continue
		}
		// Bytes that are read are written as they were.
		if again, errno := Encode(got); errno != api.OK || !bytes.Equal(again, w) {
			t.Fatalf("% x is written as % x, %d", w, again, errno)
		}
	}
	for _, errno := range []api.Errno{api.OK, api.ErrShort, api.ErrCbor, api.ErrBlock, api.ErrCrc, api.ErrBundle, api.ErrVersion, api.ErrFrag} {
		if told[errno] < 100 {
			t.Errorf("%d was told but %d times", errno, told[errno])
		}
	}
}

// TestCheckAgainstModel holds Check, and what Encode answers, against the model.
func TestCheckAgainstModel(t *testing.T) {
	c := choice{rand.New(rand.NewSource(61))}
	told := map[api.Errno]int{}
	for range 40000 {
		b := c.bundle()
		if c.rare(30) {
			b.Crc = c.Intn(9) - 4
		}
		want := modelCheck(b)
		told[want]++
		if errno := Check(b); errno != want {
			t.Fatalf("Check(%v) = %d, not %d", b, errno, want)
		}
		w, errno := Encode(b)
		if errno != want || want == api.OK && !bytes.Equal(w, wire(b)) || want != api.OK && len(w) != 0 {
			t.Fatalf("Encode(%v) = % x, %d, not error %d", b, w, errno, want)
		}
	}
	for _, errno := range []api.Errno{api.OK, api.ErrBundle, api.ErrFrag} {
		if told[errno] < 1000 {
			t.Errorf("%d was told but %d times", errno, told[errno])
		}
	}
}
