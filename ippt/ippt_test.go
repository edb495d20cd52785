package ippt

import (
	"bytes"
	"encoding/binary"
	"encoding/hex"
	"fmt"
	"math"
	"slices"
	"strings"
	"testing"

	"fairlead/api"
	"fairlead/bundle"
)

// What the tests of all files stand on: bundles that may be, and plaintexts put together in another way than package ippt's.

// The base's primary block, by its kind of sum, reckoned elsewhere.
const (
	primaryPlain = "88 07 00 00 82 02 82 03 07 82 02 82 01 02 82 01 00 82 03 04 19 03e8"
	primaryShort = "89 07 00 01 82 02 82 03 07 82 02 82 01 02 82 01 00 82 03 04 19 03e8 42 6915"
	primaryLong  = "89 07 00 02 82 02 82 03 07 82 02 82 01 02 82 01 00 82 03 04 19 03e8 44 fc3ca71e"
)

// unhex reads bytes as people write them, blanks between.
func unhex(t *testing.T, s string) []byte {
	t.Helper()
	b, err := hex.DecodeString(strings.ReplaceAll(s, " ", ""))
	if err != nil {
		t.Fatal(err)
	}
	return b
}

func dtn(name string) api.Eid {
	return api.Eid{Scheme: api.Dtn, Name: name}
}

func ipn(node, service uint64) api.Eid {
	return api.Eid{Scheme: api.Ipn, Node: node, Service: service}
}

// row answers bytes that look like chance, of a rule.
func row(size int) []byte {
	b := make([]byte, size)
	n := uint32(size)
	for i := range b {
		n = n*1664525 + 1013904223
		b[i] = byte(n >> 24)
	}
	return b
}

// edges answers numbers at which an item's bytes grow more, and the greatest.
func edges() []uint64 {
	return []uint64{
		0, 1, 22, 23, 24, 25, 255, 256, 257, 65535, 65536, math.MaxUint32, math.MaxUint32 + 1,
		math.MaxInt64, math.MaxInt64 + 1, math.MaxUint64 - 1, math.MaxUint64,
	}
}

// asked is all that a plaintext is asked of.
type asked struct {
	b      api.Bundle
	target uint64
	scope  int
	kind   uint64
	number uint64
	flags  uint64
}

func (a asked) plain() ([]byte, api.Errno) {
	return Plain(a.b, a.target, a.scope, a.kind, a.number, a.flags)
}

// String tells it, but not all of a long bundle.
func (a asked) String() string {
	s := fmt.Sprint(a.b)
	return fmt.Sprintf("target %d, scope %d, bib %d %d %d of %s", a.target, a.scope, a.kind, a.number, a.flags, s[:min(len(s), 200)])
}

// must answers a plaintext that there is.
func must(t *testing.T, a asked) []byte {
	t.Helper()
	w, errno := a.plain()
	if errno != api.OK || len(w) == 0 {
		t.Fatalf("%v: % x, %d", a, w, errno)
	}
	return w
}

// refused asks for an error, and nothing besides.
func refused(t *testing.T, a asked, want api.Errno) {
	t.Helper()
	if w, errno := a.plain(); errno != want || len(w) != 0 {
		t.Errorf("%v: % x, %d, not error %d alone", a, w, errno, want)
	}
}

// base answers a bundle that may be, of five blocks, one of them of integrity.
func base() api.Bundle {
	return api.Bundle{
		Crc: 2, Dest: ipn(3, 7), Source: ipn(1, 2), Report: dtn(""), Time: 3, Seq: 4, Life: 1000,
		Blocks: []api.Block{
			{Type: api.BlkHops, Number: 2, Crc: 2, Data: []byte{0x82, 9, 1}},
			{Type: api.BlkBib, Number: 3, Flags: 1, Data: []byte("bib")},
			{Type: api.BlkAge, Number: 4, Flags: 1, Crc: 1, Data: []byte{5}},
			{Type: 192, Number: 300, Flags: 24},
			{Type: api.BlkPayload, Number: 1, Flags: 4, Data: []byte("abc")},
		},
	}
}

// ask answers a question of the base, for an integrity block as layer 10 makes them.
func ask(target uint64, scope int) asked {
	return asked{b: base(), target: target, scope: scope, kind: api.BlkBib, number: 9}
}

// with answers a question with something otherwise, its bundle of memory of its own.
func (a asked) with(change func(a *asked)) asked {
	a.b.Blocks = slices.Clone(a.b.Blocks)
	for i := range a.b.Blocks {
		a.b.Blocks[i].Data = bytes.Clone(a.b.Blocks[i].Data)
	}
	change(&a)
	return a
}

// many answers so many blocks, the payload last.
func many(n int) []api.Block {
	l := make([]api.Block, n)
	for i := range l {
		l[i] = api.Block{Type: 192, Number: uint64(n - i), Flags: uint64(20 + i), Crc: i % 3, Data: row(i)}
	}
	l[n-1].Type = api.BlkPayload
	return l
}

// bundles answers bundles that may be, the edges of their fields among them.
func bundles() []api.Bundle {
	l := []api.Bundle{base()}
	add := func(change func(b *api.Bundle)) {
		l = append(l, ask(0, 0).with(func(a *asked) { change(&a.b) }).b)
	}
	longest := dtn("//" + strings.Repeat("n", 61) + "/")
	for kind := range 3 {
		add(func(b *api.Bundle) { b.Crc = kind })
		for _, e := range []api.Eid{dtn("//a/"), dtn("//a/b"), longest, ipn(1, 0), ipn(math.MaxUint32, math.MaxUint32)} {
			add(func(b *api.Bundle) { b.Crc, b.Dest, b.Source, b.Report = kind, e, e, e })
		}
		for _, n := range edges() {
			add(func(b *api.Bundle) { b.Crc, b.Flags, b.Time, b.Seq, b.Life = kind, n&^1, n, n, n })
		}
		add(func(b *api.Bundle) { b.Crc, b.Source, b.Flags = kind, dtn(""), api.FlagWhole })
	}
	for n := 1; n <= 16; n++ {
		add(func(b *api.Bundle) { b.Blocks = many(n) })
	}
	for _, size := range []int{0, 1, 23, 24, 255, 256, 4095, 4096} {
		add(func(b *api.Bundle) { b.Blocks[0].Data, b.Blocks[4].Data = row(size), row(size) })
	}
	for _, n := range edges() {
		add(func(b *api.Bundle) {
			b.Blocks[2].Flags, b.Blocks[3].Flags, b.Blocks[4].Flags = n, n, n
			b.Blocks[3].Number = max(n, 5)
		})
	}
	add(func(b *api.Bundle) { b.Blocks[3].Type = 255 })
	add(func(b *api.Bundle) { b.Blocks[3].Type = 24 })
	add(func(b *api.Bundle) { b.Blocks[3].Type = 23 })
	add(func(b *api.Bundle) { b.Blocks[3].Type = api.BlkBib })
	return l
}

// head answers a head in another way than package cbor.
func head(major byte, n uint64) []byte {
	b := []byte{major << 5}
	switch {
	case n < 24:
		b[0] |= byte(n)
	case n <= math.MaxUint8:
		b = append(b, byte(n))
		b[0] |= 24
	case n <= math.MaxUint16:
		b = binary.BigEndian.AppendUint16(b, uint16(n))
		b[0] |= 25
	case n <= math.MaxUint32:
		b = binary.BigEndian.AppendUint32(b, uint32(n))
		b[0] |= 26
	default:
		b = binary.BigEndian.AppendUint64(b, n)
		b[0] |= 27
	}
	return b
}

// numbers answers three numbers, one behind the other.
func numbers(x, y, z uint64) []byte {
	return bytes.Join([][]byte{head(0, x), head(0, y), head(0, z)}, nil)
}

// model tells what P9.1 asks for, row by row of its words.
func model(a asked) ([]byte, api.Errno) {
	if errno := bundle.Check(a.b); errno != api.OK {
		return nil, errno
	}
	if !slices.Contains([]int{0, 1, 2, 3, 4, 5, 6, 7}, a.scope) {
		return nil, api.ErrTarget
	}
	primary, _ := bundle.Primary(a.b)
	bib := numbers(a.kind, a.number, a.flags)
	if a.target == 0 {
		if a.scope < 4 {
			bib = nil
		}
		return bytes.Join([][]byte{{byte(a.scope)}, bib, primary}, nil), api.OK
	}
	for _, x := range a.b.Blocks {
		if x.Number != a.target || x.Type == api.BlkBib {
			continue
		}
		end := append(head(2, uint64(len(x.Data))), x.Data...)
		one := numbers(x.Type, x.Number, x.Flags)
		parts := [][][]byte{
			{}, {primary}, {one}, {primary, one},
			{bib}, {primary, bib}, {one, bib}, {primary, one, bib},
		}
		return bytes.Join([][]byte{{byte(a.scope)}, bytes.Join(parts[a.scope], nil), end}, nil), api.OK
	}
	return nil, api.ErrTarget
}

// sameAsModel holds an answer against the model's.
func sameAsModel(t *testing.T, a asked) api.Errno {
	t.Helper()
	want, wrong := model(a)
	got, errno := a.plain()
	if errno != wrong || !bytes.Equal(got, want) {
		t.Fatalf("%v: % .200x, %d, not % .200x, %d", a, got, errno, want, wrong)
	}
	return errno
}
