package bundle

import (
	"bytes"
	"encoding/binary"
	"encoding/hex"
	"fmt"
	"hash/crc32"
	"math"
	"strings"
	"testing"

	"fairlead/api"
)

// What the tests of all files stand on: bundles that may be and that may not, and their bytes, written in another way than package bundle's.

// unhex reads bytes as people write them, blanks between.
func unhex(t *testing.T, s string) []byte {
	t.Helper()
	b, err := hex.DecodeString(strings.ReplaceAll(s, " ", ""))
	if err != nil {
		t.Fatal(err)
	}
	return b
}

func dtn(name string) api.Eid {
	return api.Eid{Scheme: api.Dtn, Name: name}
}

func ipn(node, service uint64) api.Eid {
	return api.Eid{Scheme: api.Ipn, Node: node, Service: service}
}

// sameBlock holds blocks against each other; nil and empty Data are the same.
func sameBlock(x, y api.Block) bool {
	return x.Type == y.Type && x.Number == y.Number && x.Flags == y.Flags && x.Crc == y.Crc && bytes.Equal(x.Data, y.Data)
}

// same holds bundles against each other; nil and empty lists are the same.
func same(x, y api.Bundle) bool {
	if x.Flags != y.Flags || x.Crc != y.Crc || x.Dest != y.Dest || x.Source != y.Source || x.Report != y.Report {
		return false
	}
	if x.Time != y.Time || x.Seq != y.Seq || x.Life != y.Life || len(x.Blocks) != len(y.Blocks) {
		return false
	}
	for i := range x.Blocks {
		if !sameBlock(x.Blocks[i], y.Blocks[i]) {
			return false
		}
	}
	return true
}

// brief tells a bundle, but not all of a long one.
func brief(b api.Bundle) string {
	s := fmt.Sprint(b)
	return s[:min(len(s), 200)]
}

func zero(x api.Bundle) bool {
	return same(x, api.Bundle{})
}

// cloned answers a bundle of memory of its own, with room behind each list, so that what is appended to one would show.
func cloned(b api.Bundle) api.Bundle {
	l := make([]api.Block, len(b.Blocks), len(b.Blocks)+3)
	copy(l, b.Blocks)
	for i := range l {
		data := make([]byte, len(l[i].Data), len(l[i].Data)+9)
		copy(data, l[i].Data)
		l[i].Data = data
	}
	b.Blocks = l
	return b
}

// with answers a bundle with something otherwise.
func with(b api.Bundle, change func(b *api.Bundle)) api.Bundle {
	b = cloned(b)
	change(&b)
	return b
}

// row answers bytes that look like chance, of a rule.
func row(size int) []byte {
	b := make([]byte, size)
	n := uint32(size)
	for i := range b {
		n = n*1664525 + 1013904223
		b[i] = byte(n >> 24)
	}
	return b
}

// head answers a head in another way than package cbor.
func head(major byte, n uint64) []byte {
	b := []byte{major << 5}
	switch {
	case n < 24:
		b[0] |= byte(n)
	case n <= math.MaxUint8:
		b = append(b, byte(n))
		b[0] |= 24
	case n <= math.MaxUint16:
		b = binary.BigEndian.AppendUint16(b, uint16(n))
		b[0] |= 25
	case n <= math.MaxUint32:
		b = binary.BigEndian.AppendUint32(b, uint32(n))
		b[0] |= 26
	default:
		b = binary.BigEndian.AppendUint64(b, n)
		b[0] |= 27
	}
	return b
}

// x25 reckons CRC-16/X-25 in another way than package crc: the highest bit first, all turned round.
func x25(b []byte) uint16 {
	n := uint16(0xffff)
	for _, c := range b {
		for i := range 8 {
			out := n>>15 ^ uint16(c>>i)&1
			n <<= 1
			if out == 1 {
				n ^= 0x1021
			}
		}
	}
	var turned uint16
	for i := range 16 {
		turned |= (n >> i & 1) << (15 - i)
	}
	return ^turned
}

// sealed answers bytes that end with a sum's, with the sum that is right there.
func sealed(b []byte, kind uint64) []byte {
	b = bytes.Clone(b)
	switch kind {
	case 1:
		rest := b[:len(b)-2]
		binary.BigEndian.PutUint16(b[len(rest):], x25(append(bytes.Clone(rest), 0, 0)))
	case 2:
		rest := b[:len(b)-4]
		binary.BigEndian.PutUint32(b[len(rest):], crc32.Checksum(append(bytes.Clone(rest), 0, 0, 0, 0), crc32.MakeTable(crc32.Castagnoli)))
	}
	return b
}

// noSum answers the item of a sum of noughts; of a kind that is none, one of no bytes.
func noSum(kind uint64) []byte {
	if kind > 2 {
		return []byte{0x40}
	}
	return append(head(2, 2*kind), make([]byte, 2*kind)...)
}

// wireBlock writes a block, whether it may be or not.
func wireBlock(x api.Block) []byte {
	kind := uint64(x.Crc)
	parts := uint64(5)
	if kind != 0 {
		parts = 6
	}
	w := head(4, parts)
	for _, n := range []uint64{x.Type, x.Number, x.Flags, kind} {
		w = append(w, head(0, n)...)
	}
	w = append(append(w, head(2, uint64(len(x.Data)))...), x.Data...)
	if kind == 0 {
		return w
	}
	return sealed(append(w, noSum(kind)...), kind)
}

// wireEid writes an endpoint, whether it may be or not.
func wireEid(e api.Eid) []byte {
	w := append([]byte{0x82}, head(0, uint64(e.Scheme))...)
	switch {
	case e.Scheme == api.Ipn:
		return append(append(append(w, 0x82), head(0, e.Node)...), head(0, e.Service)...)
	case e.Name == "":
		return append(w, 0)
	}
	return append(append(w, head(3, uint64(len(e.Name)))...), e.Name...)
}

// parts answers the items of a bundle's primary block, the sum's with noughts, if there is one.
func parts(b api.Bundle) [][]byte {
	kind := uint64(b.Crc)
	l := [][]byte{
		{7}, head(0, b.Flags), head(0, kind),
		wireEid(b.Dest), wireEid(b.Source), wireEid(b.Report),
		append(append([]byte{0x82}, head(0, b.Time)...), head(0, b.Seq)...),
		head(0, b.Life),
	}
	if kind != 0 {
		l = append(l, noSum(kind))
	}
	return l
}

// joined answers the array of items.
func joined(l [][]byte) []byte {
	return append(head(4, uint64(len(l))), bytes.Join(l, nil)...)
}

// wirePrimary writes a bundle's primary block, whether it may be or not.
func wirePrimary(b api.Bundle) []byte {
	return sealed(joined(parts(b)), uint64(b.Crc))
}

// wireBlocks writes blocks up to and with a bundle's end.
func wireBlocks(l []api.Block) []byte {
	var w []byte
	for _, x := range l {
		w = append(w, wireBlock(x)...)
	}
	return append(w, 0xff)
}

// framed answers a bundle's bytes of those of its primary block and of what is behind.
func framed(primary, behind []byte) []byte {
	return append(append([]byte{0x9f}, primary...), behind...)
}

// wire writes a bundle, whether it may be or not.
func wire(b api.Bundle) []byte {
	return framed(wirePrimary(b), wireBlocks(b.Blocks))
}

// payload answers a payload.
func payload(data string) api.Block {
	return api.Block{Type: api.BlkPayload, Number: 1, Data: []byte(data)}
}

// base answers a bundle that may be, of three blocks.
func base() api.Bundle {
	return api.Bundle{
		Crc: 2, Dest: ipn(3, 7), Source: ipn(1, 2), Report: dtn(""), Time: 3, Seq: 4, Life: 1000,
		Blocks: []api.Block{
			{Type: api.BlkHops, Number: 2, Crc: 2, Data: []byte{0x82, 9, 1}},
			{Type: api.BlkAge, Number: 3, Flags: 1, Crc: 1, Data: []byte{5}},
			payload("abc"),
		},
	}
}

// many answers so many blocks, the payload last.
func many(n int) []api.Block {
	l := make([]api.Block, n)
	for i := range l {
		l[i] = api.Block{Type: 192, Number: uint64(n - i), Crc: i % 3, Data: row(i)}
	}
	l[n-1].Type = api.BlkPayload
	return l
}

// sized answers a bundle whose bytes are so many.
func sized(t *testing.T, size int, kind int) api.Bundle {
	t.Helper()
	b := base()
	b.Crc = kind
	for n := size; n >= 0; n-- {
		b.Blocks[2].Data = row(n)
		if len(wire(b)) == size {
			return b
		}
	}
	t.Fatalf("no bundle of %d bytes", size)
	return b
}

// all answers bundles that may be, the edges of each field among them. None has more bytes than may be.
func all() []api.Bundle {
	l := []api.Bundle{base()}
	add := func(change func(b *api.Bundle)) { l = append(l, with(base(), change)) }
	longest := dtn("//" + strings.Repeat("n", 61) + "/")
	for kind := range 3 {
		add(func(b *api.Bundle) { b.Crc = kind })
		for _, e := range []api.Eid{dtn("//a/"), dtn("//a/b"), longest, ipn(1, 0), ipn(math.MaxUint32, math.MaxUint32)} {
			add(func(b *api.Bundle) { b.Crc, b.Dest = kind, e })
			add(func(b *api.Bundle) { b.Crc, b.Source = kind, e })
			add(func(b *api.Bundle) { b.Crc, b.Report = kind, e })
			add(func(b *api.Bundle) { b.Crc, b.Dest, b.Source, b.Report = kind, e, e, e })
		}
		for _, n := range []uint64{0, 1, 23, 24, 255, 256, 65535, 65536, math.MaxUint32, math.MaxUint32 + 1, math.MaxInt64, math.MaxUint64} {
			add(func(b *api.Bundle) { b.Crc, b.Time, b.Seq, b.Life = kind, n, 0, 1 })
			add(func(b *api.Bundle) { b.Crc, b.Time, b.Seq, b.Life = kind, 1, n, 0 })
			add(func(b *api.Bundle) { b.Crc, b.Time, b.Seq, b.Life = kind, 0, 1, n })
			add(func(b *api.Bundle) { b.Crc, b.Flags = kind, n&^1 })
		}
		for bit := 1; bit < 64; bit++ {
			add(func(b *api.Bundle) { b.Crc, b.Flags = kind, 1<<bit })
		}
	}
	// from no one
	asked := uint64(api.FlagReceived | api.FlagForward | api.FlagDeliver | api.FlagDelete)
	for _, flags := range []uint64{api.FlagWhole, api.FlagWhole | api.FlagAdmin, api.FlagWhole | 0x8000, api.FlagWhole | 0x80000, ^(asked | api.FlagFragment)} {
		add(func(b *api.Bundle) { b.Source, b.Flags = dtn(""), flags })
	}
	// blocks
	for n := 1; n <= 16; n++ {
		add(func(b *api.Bundle) { b.Blocks = many(n) })
	}
	add(func(b *api.Bundle) { b.Blocks = []api.Block{payload("")} })
	add(func(b *api.Bundle) { b.Blocks = b.Blocks[1:] })
	add(func(b *api.Bundle) {
		b.Blocks = []api.Block{
			{Type: api.BlkPrevious, Number: 9, Data: []byte{0x82, 1, 0}},
			{Type: api.BlkAge, Number: 7},
			{Type: api.BlkHops, Number: 8, Data: []byte("no item")},
			{Type: api.BlkBib, Number: 6, Crc: 1},
			{Type: api.BlkBib, Number: 5, Crc: 2},
			{Type: 255, Number: math.MaxUint64, Flags: math.MaxUint64},
			{Type: 255, Number: 255},
			{Type: 2, Number: 2}, {Type: 2, Number: 3},
			{Type: api.BlkPayload, Number: 1, Flags: 4, Crc: 1, Data: row(300)},
		}
	})
	return l
}

// wrong is what a bundle may not have, and under what name.
type wrong struct {
	name   string
	change func(b *api.Bundle)
}

// wrongEids answers endpoints that may not be.
func wrongEids() []api.Eid {
	return []api.Eid{
		{}, {Scheme: 3}, {Scheme: -1}, {Scheme: 1 << 32}, {Scheme: 3, Name: "//a/b"},
		dtn("a"), dtn("none"), dtn("//a"), dtn("///b"), dtn("//A/"), dtn("//" + strings.Repeat("n", 62) + "/"),
		{Scheme: api.Dtn, Node: 1}, {Scheme: api.Dtn, Service: 1}, {Scheme: api.Dtn, Name: "//a/b", Node: 1},
		ipn(0, 0), ipn(0, 1), ipn(1<<32, 1), ipn(1, 1<<32), ipn(math.MaxUint64, 1),
		{Scheme: api.Ipn, Name: "//a/b", Node: 1},
	}
}

// wrongBlocks answers blocks that may not be.
func wrongBlocks() []api.Block {
	return []api.Block{
		{}, {Number: 9}, {Type: 7},
		{Type: 256, Number: 9}, {Type: 257, Number: 9}, {Type: 1<<32 + 7, Number: 9}, {Type: math.MaxUint64, Number: 9},
		{Type: 192, Number: 9, Crc: -1}, {Type: 192, Number: 9, Crc: 3}, {Type: 192, Number: 9, Crc: 256}, {Type: 192, Number: 9, Crc: math.MinInt},
		{Type: 192, Number: 9, Data: make([]byte, 4097)}, {Type: 192, Number: 9, Crc: 1, Data: make([]byte, 4097)},
	}
}

// wrongParts answers each thing by itself that makes a part of a bundle one that may not be, or of which there are too many, so that Decode tells it where it stands.
func wrongParts() []wrong {
	var l []wrong
	add := func(name string, change func(b *api.Bundle)) { l = append(l, wrong{name, change}) }
	for _, kind := range []int{math.MinInt, math.MinInt + 1, -1 << 32, -256, -255, -2, -1, 3, 4, 255, 256, 257, 258, 1 << 32, 1<<32 + 1, 1<<32 + 2, math.MaxInt} {
		add("no such sum", func(b *api.Bundle) { b.Crc = kind })
	}
	for _, e := range wrongEids() {
		add("Dest may not be", func(b *api.Bundle) { b.Dest = e })
		add("Source may not be", func(b *api.Bundle) { b.Source = e })
		add("Source may not be, of FlagWhole", func(b *api.Bundle) { b.Source, b.Flags = e, api.FlagWhole })
		add("Report may not be", func(b *api.Bundle) { b.Report = e })
	}
	for _, n := range []int{17, 18, 32, 272} {
		add("too many blocks", func(b *api.Bundle) { b.Blocks = many(n) })
	}
	for _, x := range wrongBlocks() {
		add("a block that may not be, first", func(b *api.Bundle) { b.Blocks[0] = x })
		add("a block that may not be, ahead of the payload", func(b *api.Bundle) { b.Blocks[1] = x })
		add("a block that may not be, last", func(b *api.Bundle) { b.Blocks[2] = x })
		add("a block that may not be, alone", func(b *api.Bundle) { b.Blocks = []api.Block{x} })
	}
	add("a payload that may not be", func(b *api.Bundle) { b.Blocks[2].Data = make([]byte, 4097) })
	add("a payload that may not be", func(b *api.Bundle) { b.Blocks[2].Number = 9 })
	add("a payload that may not be", func(b *api.Bundle) { b.Blocks[2].Crc = 3 })
	add("the payload twice, of another Number", func(b *api.Bundle) { b.Blocks[1] = payload(""); b.Blocks[1].Number = 3 })
	return l
}

// wrongWholes answers each thing by itself that makes a bundle one that may not be, though its parts may, but for fragments.
func wrongWholes() []wrong {
	var l []wrong
	add := func(name string, change func(b *api.Bundle)) { l = append(l, wrong{name, change}) }
	add("Dest None", func(b *api.Bundle) { b.Dest = dtn("") })
	add("Dest and Source None", func(b *api.Bundle) { b.Dest, b.Source, b.Flags = dtn(""), dtn(""), api.FlagWhole })
	for _, flags := range []uint64{
		0, api.FlagAdmin, 8, 0x10, 0x40, 0x400, ^uint64(api.FlagWhole | api.FlagFragment), ^uint64(api.FlagFragment),
		api.FlagReceived, api.FlagForward, api.FlagDeliver, api.FlagDelete,
		api.FlagWhole | api.FlagReceived, api.FlagWhole | api.FlagForward, api.FlagWhole | api.FlagDeliver, api.FlagWhole | api.FlagDelete,
		api.FlagWhole | api.FlagAdmin | api.FlagDelete, api.FlagWhole | api.FlagReceived | api.FlagForward | api.FlagDeliver | api.FlagDelete,
	} {
		add("Source None", func(b *api.Bundle) { b.Source, b.Flags = dtn(""), flags })
	}
	add("no block", func(b *api.Bundle) { b.Blocks = nil })
	add("no block", func(b *api.Bundle) { b.Blocks = []api.Block{} })
	add("a Number twice", func(b *api.Bundle) { b.Blocks[0].Number = 3 })
	add("a Number twice", func(b *api.Bundle) { b.Blocks[1].Number = 2 })
	add("the payload's Number twice", func(b *api.Bundle) { b.Blocks[0].Number = 1 })
	add("the payload's Number twice", func(b *api.Bundle) { b.Blocks[1].Number = 1 })
	add("a Number twice of many", func(b *api.Bundle) { b.Blocks = many(16); b.Blocks[14].Number = 16 })
	add("the payload first", func(b *api.Bundle) { b.Blocks[0], b.Blocks[2] = b.Blocks[2], b.Blocks[0] })
	add("the payload ahead of the last", func(b *api.Bundle) { b.Blocks[1], b.Blocks[2] = b.Blocks[2], b.Blocks[1] })
	add("the payload twice", func(b *api.Bundle) { b.Blocks[0] = payload("abc") })
	add("the payload twice", func(b *api.Bundle) { b.Blocks[1] = payload("") })
	add("the payload twice alone", func(b *api.Bundle) { b.Blocks = []api.Block{payload("abc"), payload("abc")} })
	add("no payload", func(b *api.Bundle) { b.Blocks = b.Blocks[:2] })
	add("no payload", func(b *api.Bundle) { b.Blocks = b.Blocks[:1] })
	add("another block of the payload's Number", func(b *api.Bundle) { b.Blocks[2].Type = 192 })
	for _, typ := range []uint64{api.BlkHops, api.BlkAge, api.BlkPrevious} {
		add("two of a type", func(b *api.Bundle) { b.Blocks[0].Type, b.Blocks[1].Type = typ, typ })
		add("two of a type, far apart", func(b *api.Bundle) { b.Blocks = many(16); b.Blocks[0].Type, b.Blocks[14].Type = typ, typ })
		add("three of a type", func(b *api.Bundle) {
			b.Blocks = many(4)
			b.Blocks[0].Type, b.Blocks[1].Type, b.Blocks[2].Type = typ, typ, typ
		})
	}
	return l
}

// wrongs answers all of both.
func wrongs() []wrong {
	return append(wrongParts(), wrongWholes()...)
}

// refusable answers bundles that may not be, of ErrBundle.
func refusable() []api.Bundle {
	l := []api.Bundle{{}}
	for _, c := range wrongs() {
		l = append(l, with(base(), c.change))
	}
	return l
}
