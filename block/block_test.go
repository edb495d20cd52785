package block

import (
	"bytes"
	"encoding/binary"
	"encoding/hex"
	"errors"
	"hash/crc32"
	"math"
	"math/rand"
	"strings"
	"testing"

	"fairlead/api"
	"fairlead/cbor"
)

// unhex reads bytes as people write them, blanks between.
func unhex(t *testing.T, s string) []byte {
	t.Helper()
	b, err := hex.DecodeString(strings.ReplaceAll(s, " ", ""))
	if err != nil {
		t.Fatal(err)
	}
	return b
}

// same holds blocks against each other; nil and empty Data are the same.
func same(x, y api.Block) bool {
	return x.Type == y.Type && x.Number == y.Number && x.Flags == y.Flags && x.Crc == y.Crc && bytes.Equal(x.Data, y.Data)
}

func zero(x api.Block) bool {
	return same(x, api.Block{})
}

// head answers a head in another way than package cbor.
func head(major byte, n uint64) []byte {
	b := []byte{major << 5}
	switch {
	case n < 24:
		b[0] |= byte(n)
	case n <= math.MaxUint8:
		b = append(b, byte(n))
		b[0] |= 24
	case n <= math.MaxUint16:
		b = binary.BigEndian.AppendUint16(b, uint16(n))
		b[0] |= 25
	case n <= math.MaxUint32:
		b = binary.BigEndian.AppendUint32(b, uint32(n))
		b[0] |= 26
	default:
		b = binary.BigEndian.AppendUint64(b, n)
		b[0] |= 27
	}
	return b
}

// x25 reckons CRC-16/X-25 in another way than package crc: the highest bit first, all turned round.
func x25(b []byte) uint16 {
	n := uint16(0xffff)
	for _, c := range b {
		for i := range 8 {
			out := n>>15 ^ uint16(c>>i)&1
			n <<= 1
			if out == 1 {
				n ^= 0x1021
			}
		}
	}
	var turned uint16
	for i := range 16 {
		turned |= (n >> i & 1) << (15 - i)
	}
	return ^turned
}

// sealed answers bytes that end with a sum's, with the sum that is right there.
func sealed(b []byte, kind int) []byte {
	b = bytes.Clone(b)
	switch kind {
	case 1:
		rest := b[:len(b)-2]
		binary.BigEndian.PutUint16(b[len(rest):], x25(append(bytes.Clone(rest), 0, 0)))
	case 2:
		rest := b[:len(b)-4]
		binary.BigEndian.PutUint32(b[len(rest):], crc32.Checksum(append(bytes.Clone(rest), 0, 0, 0, 0), crc32.MakeTable(crc32.Castagnoli)))
	}
	return b
}

// wire writes a block in another way than package block, whether it may be or not. A sum of a kind that is none has no bytes.
func wire(b api.Block) []byte {
	kind := uint64(b.Crc)
	parts := uint64(5)
	if kind != 0 {
		parts = 6
	}
	w := head(4, parts)
	for _, n := range []uint64{b.Type, b.Number, b.Flags, kind} {
		w = append(w, head(0, n)...)
	}
	w = append(append(w, head(2, uint64(len(b.Data)))...), b.Data...)
	switch kind {
	case 0:
		return w
	case 1:
		return sealed(append(w, 0x42, 0, 0), 1)
	case 2:
		return sealed(append(w, 0x44, 0, 0, 0, 0), 2)
	}
	return append(w, 0x40)
}

// row answers bytes that look like chance, of a rule.
func row(size int) []byte {
	b := make([]byte, size)
	rand.New(rand.NewSource(int64(size))).Read(b)
	return b
}

// all answers blocks that may be, the edges of each field among them.
func all() []api.Block {
	var l []api.Block
	for _, kind := range []int{0, 1, 2} {
		for _, data := range [][]byte{nil, {5}, {0}, row(23), row(24), row(255), row(256), row(4095), row(4096)} {
			l = append(l, api.Block{Type: 1, Number: 1, Crc: kind, Data: data})
		}
		for _, typ := range []uint64{2, 5, 6, 7, 8, 9, 10, 11, 12, 23, 24, 192, 254, 255} {
			for _, number := range []uint64{1, 2, 23, 24, 255, 256, 65535, 65536, math.MaxUint32, math.MaxUint32 + 1, math.MaxInt64, math.MaxUint64} {
				l = append(l, api.Block{Type: typ, Number: number, Crc: kind, Data: []byte("abc")})
			}
		}
		for _, flags := range []uint64{1, 4, 16, 23, 24, 255, 256, 65536, math.MaxUint32 + 1, math.MaxUint64} {
			l = append(l, api.Block{Type: 1, Number: 1, Flags: flags, Crc: kind, Data: []byte{1}})
			l = append(l, api.Block{Type: 255, Number: math.MaxUint64, Flags: flags, Crc: kind})
		}
	}
	return l
}

// none answers blocks that may not be.
func none() []api.Block {
	l := []api.Block{
		{},
		{Number: 1},
		{Type: 1},
		{Type: 10},
		{Type: 10, Data: []byte{0x82, 1, 1}},
		{Type: 0, Number: 1, Data: []byte{5}},
		{Type: 0, Number: 1, Crc: 1, Data: []byte{5}},
		{Type: 1, Number: 0, Data: []byte{5}},
		{Type: 1, Number: 0, Crc: 2, Data: []byte{5}},
		{Type: 1, Number: 1, Data: make([]byte, 4097)},
		{Type: 1, Number: 1, Crc: 1, Data: make([]byte, 4097)},
		{Type: 1, Number: 1, Crc: 2, Data: make([]byte, 4097)},
		{Type: 7, Number: 3, Data: make([]byte, 4097)},
		{Type: 7, Number: 3, Crc: 2, Data: make([]byte, 1<<16)},
		{Type: 1, Number: 2, Crc: 3, Data: make([]byte, 5000)},
	}
	for _, typ := range []uint64{256, 257, 266, 511, 512, 65536, 65537, 1 << 32, 1<<32 + 1, 1<<32 + 10, 1 << 63, 1<<63 + 1, math.MaxUint64} {
		l = append(l, api.Block{Type: typ, Number: 1}, api.Block{Type: typ, Number: 1, Crc: 2}, api.Block{Type: typ, Number: 2, Data: []byte{5}})
	}
	for _, number := range []uint64{0, 2, 3, 255, 256, 257, 1<<32 + 1, 1 << 63, 1<<63 + 1, math.MaxUint64} {
		l = append(l, api.Block{Type: 1, Number: number}, api.Block{Type: 1, Number: number, Crc: 1}, api.Block{Type: 1, Number: number, Crc: 2, Data: []byte{5}})
	}
	for _, kind := range []int{math.MinInt, math.MinInt + 1, math.MinInt + 2, -1 << 32, -256, -255, -254, -2, -1, 3, 4, 5, 255, 256, 257, 258, 1 << 16, 1 << 32, 1<<32 + 1, 1<<32 + 2, math.MaxInt} {
		l = append(l, api.Block{Type: 1, Number: 1, Crc: kind}, api.Block{Type: 10, Number: 2, Crc: kind, Data: []byte{5}})
	}
	return l
}

// P5.1

func TestCheck(t *testing.T) {
	for _, b := range all() {
		if !Check(b) {
			t.Errorf("%.60v may be", b)
		}
	}
	for _, b := range none() {
		if Check(b) {
			t.Errorf("%.60v may not be", b)
		}
	}
}

// TestCheckOfTypes asks each type there is, and some that are none.
func TestCheckOfTypes(t *testing.T) {
	for typ := range uint64(1024) {
		for _, number := range []uint64{0, 1, 2, 300} {
			want := typ >= 1 && typ <= 255 && number > 0 && (typ != 1 || number == 1)
			if Check(api.Block{Type: typ, Number: number}) != want {
				t.Errorf("Check of Type %d, Number %d: %v", typ, number, !want)
			}
		}
	}
}

func TestCheckOfLengths(t *testing.T) {
	for _, size := range []int{0, 1, 2, 255, 256, 4000, 4094, 4095, 4096, 4097, 4098, 8192, 8193, 65536} {
		for _, typ := range []uint64{1, 7, 255} {
			if want := size <= 4096; Check(api.Block{Type: typ, Number: 1, Data: make([]byte, size)}) != want {
				t.Errorf("Check of Type %d with %d bytes: %v", typ, size, !want)
			}
		}
	}
	// What room Data has behind its end is nobody's.
	if !Check(api.Block{Type: 1, Number: 1, Data: make([]byte, 1, 10000)}) {
		t.Error("room behind Data is counted")
	}
}

// TestCheckOfFlags: flags may be any.
func TestCheckOfFlags(t *testing.T) {
	for i := range 64 {
		if !Check(api.Block{Type: 1, Number: 1, Flags: 1 << i}) {
			t.Errorf("the flag at %d may be", i)
		}
	}
}

// P5.2

// written are blocks, and their bytes, reckoned elsewhere.
func written() []struct {
	b    api.Block
	want string
} {
	return []struct {
		b    api.Block
		want string
	}{
		{api.Block{Type: 1, Number: 1, Data: []byte{5}}, "85 01 01 00 00 41 05"},
		{api.Block{Type: 1, Number: 1, Crc: 1, Data: []byte{5}}, "86 01 01 00 01 41 05 42 f6 ca"},
		{api.Block{Type: 1, Number: 1, Crc: 2, Data: []byte{5}}, "86 01 01 00 02 41 05 44 13 30 58 8d"},
		{api.Block{Type: 1, Number: 1}, "85 01 01 00 00 40"},
		{api.Block{Type: 1, Number: 1, Crc: 1}, "86 01 01 00 01 40 42 61 78"},
		{api.Block{Type: 1, Number: 1, Crc: 2, Data: []byte{}}, "86 01 01 00 02 40 44 06 e2 60 4f"},
		{api.Block{Type: 10, Number: 2, Crc: 2, Data: []byte{0x82, 0x18, 0x18, 3}}, "86 0a 02 00 02 44 82 18 18 03 44 c6 88 08 63"},
		{api.Block{Type: 7, Number: 24, Flags: 1, Crc: 1, Data: []byte{0x18, 0x64}}, "86 07 18 18 01 01 42 18 64 42 f0 5b"},
		{api.Block{Type: 6, Number: 255, Flags: 16, Crc: 2, Data: []byte{0x82, 2, 0x82, 3, 7}}, "86 06 18 ff 10 02 45 82 02 82 03 07 44 ac 00 98 61"},
		{api.Block{Type: 255, Number: math.MaxUint64, Flags: math.MaxUint64, Crc: 1, Data: []byte{255, 255, 255}}, "86 18 ff 1b ff ff ff ff ff ff ff ff 1b ff ff ff ff ff ff ff ff 01 43 ff ff ff 42 25 af"},
		{api.Block{Type: 24, Number: 256, Flags: 65536, Crc: 2, Data: make([]byte, 24)}, "86 18 18 19 01 00 1a 00 01 00 00 02 58 18" + strings.Repeat("00", 24) + "44 30 40 bd 6a"},
		{api.Block{Type: 2, Number: 1, Flags: 1 << 32, Data: []byte("a")}, "85 02 01 1b 00 00 00 01 00 00 00 00 00 41 61"},
		{api.Block{Type: 1, Number: 1, Data: make([]byte, 4096)}, "85 01 01 00 00 59 10 00" + strings.Repeat("00", 4096)},
		{api.Block{Type: 1, Number: 1, Crc: 1, Data: make([]byte, 4096)}, "86 01 01 00 01 59 10 00" + strings.Repeat("00", 4096) + "42 10 3c"},
		{api.Block{Type: 1, Number: 1, Crc: 2, Data: make([]byte, 4096)}, "86 01 01 00 02 59 10 00" + strings.Repeat("00", 4096) + "44 b3 d3 fb fc"},
	}
}

func TestEncode(t *testing.T) {
	for _, c := range written() {
		if w, errno := Encode(c.b); errno != api.OK || !bytes.Equal(w, unhex(t, c.want)) {
			t.Errorf("Encode(%.60v) = % .60x, %d, not %.60s", c.b, w, errno, c.want)
		}
	}
	for _, b := range all() {
		if w, errno := Encode(b); errno != api.OK || !bytes.Equal(w, wire(b)) {
			t.Errorf("Encode(%.60v) = % .60x, %d, not % .60x", b, w, errno, wire(b))
		}
	}
}

func TestEncodeRefuses(t *testing.T) {
	for _, b := range none() {
		if w, errno := Encode(b); errno != api.ErrBlock || len(w) != 0 {
			t.Errorf("Encode(%.60v) = % .60x, %d: to be refused", b, w, errno)
		}
	}
}

// P5.3

func TestDecode(t *testing.T) {
	for _, c := range written() {
		w := unhex(t, c.want)
		if b, n, errno := Decode(w); errno != api.OK || n != len(w) || !same(b, c.b) {
			t.Errorf("Decode(% .60x) = %.60v, %d, %d, not %.60v", w, b, n, errno, c.b)
		}
	}
}

// TestDecodeWithBytesBehind: what stands behind a block is not asked, whatever it is.
func TestDecodeWithBytesBehind(t *testing.T) {
	for _, c := range written() {
		w := unhex(t, c.want)
		for _, behind := range [][]byte{{0}, {0xff}, {0x1c}, {0x9f}, {0x42, 0xf6, 0xca}, make([]byte, 5000), w, {0x86}} {
			if b, n, errno := Decode(append(bytes.Clone(w), behind...)); errno != api.OK || n != len(w) || !same(b, c.b) {
				t.Errorf("Decode of % .60x with % .20x behind = %.60v, %d, %d", w, behind, b, n, errno)
			}
		}
	}
}

// refused asks that Decode answers an error, and nothing besides.
func refused(t *testing.T, w []byte, want api.Errno) {
	t.Helper()
	if b, n, errno := Decode(w); errno != want || n != 0 || !zero(b) {
		t.Errorf("Decode(% .60x) = %.60v, %d, %d, not error %d", w, b, n, errno, want)
	}
}

func TestDecodeOfEndsWithin(t *testing.T) {
	refused(t, nil, api.ErrShort)
	for _, c := range written() {
		w := unhex(t, c.want)
		for size := range w {
			refused(t, w[:size:size], api.ErrShort)
			// What room there is behind the end is nobody's.
			refused(t, w[:size], api.ErrShort)
		}
	}
}

// TestDecodeOfNoItem: layer 3's errors come first, whatever else is wrong.
func TestDecodeOfNoItem(t *testing.T) {
	for _, c := range []struct {
		w    string
		want api.Errno
	}{
		{"ff", api.ErrCbor},
		{"20", api.ErrCbor},
		{"a0", api.ErrCbor},
		{"f6", api.ErrCbor},
		{"1c", api.ErrCbor},
		{"18 17", api.ErrCbor},
		{"98 05 01 01 00 00 41 05", api.ErrCbor},          // heads that are longer than they need be
		{"85 18 01 01 00 00 41 05", api.ErrCbor},          // a type
		{"85 01 19 00 01 00 00 41 05", api.ErrCbor},       // a number
		{"85 01 01 1a 00 00 00 00 00 41 05", api.ErrCbor}, // flags
		{"85 01 01 00 18 00 41 05", api.ErrCbor},          // a sum's kind
		{"85 01 01 00 00 58 01 05", api.ErrCbor},          // data
		{"86 01 01 00 01 41 05 58 02 f6 ca", api.ErrCbor}, // a sum
		{"85 20 01 00 00 41 05", api.ErrCbor},
		{"85 01 01 00 00 ff", api.ErrCbor},
		{"85 01 01 00 00 f4", api.ErrCbor},
		{"85 01 01 00 00 5f 41 05 ff", api.ErrCbor},
		{"85 01 01 00 00 61 00", api.ErrCbor},
		{"85 00 00 00 09 1c", api.ErrCbor}, // no block's, but no item ahead of it
		{"86 00 01 00 01 41 05 42 f6", api.ErrShort},
		{"80 18", api.ErrBlock},
		{"9f", api.ErrShort},
		{"9f 01 01 00 00 41 05", api.ErrShort},
		{"5a ff ff ff ff", api.ErrShort},
		{"9b ff ff ff ff ff ff ff ff", api.ErrShort},
		{"81 81 81 81 81 81 81 81 81", api.ErrDeep},
		{"85 81 81 81 81 81 81 81 81", api.ErrDeep},
		{"81 81 81 81 81 81 81 81 00", api.ErrBlock},
		{"99 10 00" + strings.Repeat("00", 4096), api.ErrDeep},
		{"99 0f ff" + strings.Repeat("00", 4095), api.ErrBlock},
	} {
		refused(t, unhex(t, c.w), c.want)
	}
}

// TestDecodeOfNoBlock: bytes that are an item, but no block's.
func TestDecodeOfNoBlock(t *testing.T) {
	for _, w := range []string{
		// no arrays, or of another length
		"00", "01", "41 05", "61 61", "40", "60", "80", "81 01", "82 01 01", "84 01 01 00 00", "84 01 01 00 41 05",
		"86 01 01 00 00 41 05 00", "86 01 01 00 00 41 05 40", "86 01 01 00 00 41 05 41 05", "87 01 01 00 00 41 05 00 00", "47 85 01 01 00 00 41 05", "81 85 01 01 00 00 41 05",
		// endless ones
		"9f ff", "9f 01 01 00 00 41 05 ff", "9f 01 01 00 01 41 05 42 f6 ca ff", "9f 01 01 00 02 41 05 44 13 30 58 8d ff", "9f 85 01 01 00 00 41 05 ff", "85 01 01 00 00 9f 41 05 ff", "85 9f 01 ff 01 00 00 41 05", "85 9f ff 01 00 00 41 05",
		// another kind of item at each place
		"85 41 01 01 00 00 41 05", "85 61 61 01 00 00 41 05", "85 81 01 01 00 00 41 05", "85 40 01 00 00 41 05",
		"85 01 41 01 00 00 41 05", "85 01 61 61 00 00 41 05", "85 01 81 01 00 00 41 05", "85 01 80 00 00 41 05",
		"85 01 01 40 00 41 05", "85 01 01 60 00 41 05", "85 01 01 80 00 41 05", "85 01 01 9f ff 00 41 05", "85 01 01 41 00 00 41 05", "85 01 01 81 00 00 41 05",
		"85 01 01 00 40 41 05", "85 01 01 00 60 41 05", "85 01 01 00 80 41 05", "85 01 01 00 9f ff 41 05", "85 01 01 00 81 00 41 05",
		"85 01 01 00 00 05", "85 01 01 00 00 00", "85 01 01 00 00 60", "85 01 01 00 00 61 61", "85 01 01 00 00 80", "85 01 01 00 00 81 05", "85 01 01 00 00 81 41 05", "85 01 01 00 00 9f ff",
		// in another order
		"85 41 05 01 01 00 00", "85 01 01 00 41 05 00",
		// of one that may not be
		"85 00 01 00 00 41 05", "85 19 01 00 01 00 00 41 05", "85 19 01 01 01 00 00 41 05", "85 1b 00 00 00 01 00 00 00 01 01 00 00 41 05", "85 1b ff ff ff ff ff ff ff ff 01 00 00 41 05",
		"85 01 00 00 00 41 05", "85 0a 00 00 00 41 05", "85 01 02 00 00 41 05", "85 01 19 01 01 00 00 41 05", "85 01 1b 00 00 00 01 00 00 00 01 00 00 41 05",
		// a sum's kind that is none
		"85 01 01 00 03 41 05", "86 01 01 00 03 41 05 40", "86 01 01 00 03 41 05 46 00 00 00 00 00 00", "86 01 01 00 03 41 05 48 00 00 00 00 00 00 00 00", "86 01 01 00 04 41 05 44 00 00 00 00",
		"85 01 01 00 1b ff ff ff ff ff ff ff ff 41 05", "85 01 01 00 1b 00 00 00 01 00 00 00 00 41 05", "86 01 01 00 1b 00 00 00 01 00 00 00 01 41 05 42 00 00", "86 01 01 00 1b 80 00 00 00 00 00 00 01 41 05 42 00 00", "86 01 01 00 19 01 01 41 05 42 00 00", "86 01 01 00 1b ff ff ff ff ff ff ff fe 41 05 44 00 00 00 00",
		// no sum where there should be one, and one where there should be none
		"85 01 01 00 01 41 05", "85 01 01 00 02 41 05", "86 01 01 00 00 41 05 42 f6 ca", "86 01 01 00 00 41 05 44 13 30 58 8d", "86 01 01 00 00 41 05 42 00 00", "86 01 01 00 00 41 05 44 00 00 00 00",
		// sums that are too short, or too long, or of the other kind
		"86 01 01 00 01 41 05 40", "86 01 01 00 01 41 05 41 f6", "86 01 01 00 01 41 05 43 f6 ca 00", "86 01 01 00 01 41 05 43 00 f6 ca", "86 01 01 00 01 41 05 44 13 30 58 8d", "86 01 01 00 01 41 05 44 00 00 f6 ca",
		"86 01 01 00 02 41 05 40", "86 01 01 00 02 41 05 42 f6 ca", "86 01 01 00 02 41 05 43 13 30 58", "86 01 01 00 02 41 05 45 13 30 58 8d 00", "86 01 01 00 02 41 05 45 00 13 30 58 8d", "86 01 01 00 02 41 05 48 13 30 58 8d 13 30 58 8d",
		"87 01 01 00 01 41 05 42 f6 ca 00", "87 01 01 00 01 41 05 42 f6 ca 42 f6 ca", "87 01 01 00 02 41 05 44 13 30 58 8d 40",
		// sums that are no bytes
		"86 01 01 00 01 41 05 00", "86 01 01 00 01 41 05 19 f6 ca", "86 01 01 00 01 41 05 62 61 61", "86 01 01 00 01 41 05 82 00 00", "86 01 01 00 01 41 05 80", "86 01 01 00 01 41 05 9f 00 00 ff", "86 01 01 00 01 41 05 81 42 f6 ca",
		"86 01 01 00 02 41 05 00", "86 01 01 00 02 41 05 1a 13 30 58 8d", "86 01 01 00 02 41 05 64 61 61 61 61", "86 01 01 00 02 41 05 84 00 00 00 00",
	} {
		b := unhex(t, w)
		if _, n, errno := cbor.Decode(b); errno != api.OK || n != len(b) {
			t.Errorf("%s is no item: %d, %d", w, n, errno)
		}
		refused(t, b, api.ErrBlock)
		refused(t, append(b, 0), api.ErrBlock)
	}
}

// TestDecodeOfWhatMayNotBe: a block that may not be is told ahead of its sum, be that right or not.
func TestDecodeOfWhatMayNotBe(t *testing.T) {
	for _, b := range none() {
		w := wire(b)
		refused(t, w, api.ErrBlock)
		if b.Crc == 1 || b.Crc == 2 {
			w[len(w)-1] ^= 1
			refused(t, w, api.ErrBlock)
		}
	}
}

// TestDecodeOfWrongSums: each sum but the right one is told.
func TestDecodeOfWrongSums(t *testing.T) {
	for _, w := range []string{
		"86 01 01 00 01 41 05 42 00 00",             // noughts
		"86 01 01 00 01 41 05 42 ff ff",             // ones
		"86 01 01 00 01 41 05 42 ca f6",             // the lowest first
		"86 01 01 00 01 41 05 42 09 35",             // all bits turned
		"86 01 01 00 02 41 05 44 00 00 00 00",       // likewise of the longer one
		"86 01 01 00 02 41 05 44 ff ff ff ff",       //
		"86 01 01 00 02 41 05 44 8d 58 30 13",       //
		"86 01 01 00 02 41 05 44 ec cf a7 72",       //
		"86 01 01 00 02 41 06 44 13 30 58 8d",       // of other data
		"86 01 01 00 01 41 06 42 f6 ca",             //
		"86 01 01 01 01 41 05 42 f6 ca",             // of other flags
		"86 02 01 00 01 41 05 42 f6 ca",             // of another type
		"86 02 02 00 02 41 05 44 13 30 58 8d",       // of another number, too
		"86 01 01 00 02 42 05 05 44 13 30 58 8d ff", // of longer data
	} {
		refused(t, unhex(t, w), api.ErrCrc)
	}
	right := unhex(t, "86 01 01 00 01 41 05 42 f6 ca")
	for sum := range 1 << 16 {
		w := binary.BigEndian.AppendUint16(bytes.Clone(right[:8]), uint16(sum))
		if bytes.Equal(w, right) {
			continue
		}
		refused(t, w, api.ErrCrc)
	}
}

// P5.4

func TestHops(t *testing.T) {
	for _, c := range []struct {
		data         string
		limit, count uint64
	}{
		{"82 01 00", 1, 0},
		{"82 01 01", 1, 1},
		{"82 01 17", 1, 23},
		{"82 17 18 18", 23, 24},
		{"82 18 20 00", 32, 0},
		{"82 18 fe 18 ff", 254, 255},
		{"82 18 ff 00", 255, 0},
		{"82 18 ff 18 ff", 255, 255},
		{"82 18 ff 19 01 00", 255, 256}, // a count that is above its limit
		{"82 05 1b ff ff ff ff ff ff ff ff", 5, math.MaxUint64},
	} {
		b := api.Block{Type: api.BlkHops, Number: 2, Data: unhex(t, c.data)}
		limit, count, ok := Hops(b)
		if !ok || limit != c.limit || count != c.count {
			t.Errorf("Hops of %s = %d, %d, %v", c.data, limit, count, ok)
		}
		ofOthers(t, b)
	}
}

func TestHopsRefuses(t *testing.T) {
	for _, data := range []string{
		"", "00", "05", "41 05", "80", "81 05", "83 05 01 00", "83 05 01 01", "82 05", "82", "85 01 01 00 00 41 05",
		"82 00 00", "82 00 01", "82 19 01 00 00", "82 19 01 01 01", "82 1a 00 01 00 01 00", "82 1b 00 00 00 01 00 00 00 05 01", "82 1b ff ff ff ff ff ff ff ff 01", "82 1b 80 00 00 00 00 00 00 01 01",
		"9f 05 01 ff", "9f 05 01", "9f ff", "81 82 05 01", "82 82 05 01 82 05 01",
		"82 41 05 01", "82 61 35 01", "82 40 01", "82 05 41 01", "82 05 61 31", "82 05 40", "82 05 60", "82 05 80", "82 05 81 01", "82 81 05 01", "82 80 01", "82 05 9f ff", "82 9f 05 ff 01",
		"82 05 01 00", "82 05 01 ff", "82 05 01 82 05 01", // bytes behind it
		"82 18 05 01", "82 05 18 01", "98 02 05 01", "82 05 20", "82 20 01", "82 05 18", "82 05 ff", "ff", "a1 05 01",
		"81 81 81 81 81 81 81 81 81",
	} {
		if limit, count, ok := Hops(api.Block{Type: api.BlkHops, Number: 2, Data: unhex(t, data)}); ok || limit != 0 || count != 0 {
			t.Errorf("Hops of %s = %d, %d, %v: to be refused", data, limit, count, ok)
		}
	}
}

func TestAge(t *testing.T) {
	for _, c := range []struct {
		data string
		want uint64
	}{
		{"00", 0}, {"01", 1}, {"17", 23}, {"18 18", 24}, {"18 ff", 255}, {"19 01 00", 256}, {"1a 00 01 00 00", 65536}, {"1b 00 00 00 01 00 00 00 00", 1 << 32}, {"1b ff ff ff ff ff ff ff ff", math.MaxUint64},
	} {
		b := api.Block{Type: api.BlkAge, Number: 2, Data: unhex(t, c.data)}
		if age, ok := Age(b); !ok || age != c.want {
			t.Errorf("Age of %s = %d, %v", c.data, age, ok)
		}
		ofOthers(t, b)
	}
}

func TestAgeRefuses(t *testing.T) {
	for _, data := range []string{
		"", "40", "41 05", "60", "61 35", "80", "81 05", "82 05 01", "9f ff", "9f 05 ff",
		"00 00", "05 ff", "05 05", "18 18 00", "18 17", "18", "19 01", "19 00 ff", "1b 00 00 00 00 ff ff ff ff", "1c", "20", "ff", "f6",
	} {
		if age, ok := Age(api.Block{Type: api.BlkAge, Number: 2, Data: unhex(t, data)}); ok || age != 0 {
			t.Errorf("Age of %s = %d, %v: to be refused", data, age, ok)
		}
	}
}

func TestPrevious(t *testing.T) {
	for _, c := range []struct {
		data string
		want api.Eid
	}{
		{"82 01 00", api.Eid{Scheme: api.Dtn}},
		{"82 01 65 2f 2f 61 2f 62", api.Eid{Scheme: api.Dtn, Name: "//a/b"}},
		{"82 01 64 2f 2f 61 2f", api.Eid{Scheme: api.Dtn, Name: "//a/"}},
		{"82 02 82 03 07", api.Eid{Scheme: api.Ipn, Node: 3, Service: 7}},
		{"82 02 82 01 00", api.Eid{Scheme: api.Ipn, Node: 1}},
		{"82 02 82 1a ff ff ff ff 1a ff ff ff ff", api.Eid{Scheme: api.Ipn, Node: math.MaxUint32, Service: math.MaxUint32}},
	} {
		b := api.Block{Type: api.BlkPrevious, Number: 2, Data: unhex(t, c.data)}
		if e, ok := Previous(b); !ok || e != c.want {
			t.Errorf("Previous of %s = %v, %v", c.data, e, ok)
		}
		ofOthers(t, b)
	}
}

func TestPreviousRefuses(t *testing.T) {
	for _, data := range []string{
		"", "00", "01", "80", "82 05 01", "82 02 00", "82 01 01", "82 01 60", "82 03 00", "82 00 00", "82 01 61 61", "82 01 45 2f 2f 61 2f 62", "65 2f 2f 61 2f 62",
		"82 02 82 00 07", "82 02 82 1b 00 00 00 01 00 00 00 00 00", "82 02 82 01 1b 00 00 00 01 00 00 00 00", "82 02 81 03", "82 02 83 03 07 00", "9f 02 82 03 07 ff", "82 02 9f 03 07 ff", "9f 01 00 ff",
		"82 01 00 00", "82 02 82 03 07 ff", "82 01 65 2f 2f 61 2f 62 00", // bytes behind it
		"82 01", "82 02 82 03", "82 01 65 2f 2f 61 2f", "82 18 01 00", "82 02 82 18 03 07", "82 01 65 2f 2f 41 2f 62", "ff",
	} {
		if e, ok := Previous(api.Block{Type: api.BlkPrevious, Number: 2, Data: unhex(t, data)}); ok || e != (api.Eid{}) {
			t.Errorf("Previous of %s = %v, %v: to be refused", data, e, ok)
		}
	}
}

// ofOthers asks what a block's Data is of all other types: nothing that the block's own type has.
func ofOthers(t *testing.T, b api.Block) {
	t.Helper()
	own := b.Type
	for _, typ := range []uint64{0, 1, 2, 5, 6, 7, 8, 9, 10, 11, 12, 255, 256, 256 + own, 1<<32 + own, 1<<63 + own, math.MaxUint64} {
		if b.Type = typ; typ == own {
			continue
		}
		if limit, count, ok := Hops(b); own == api.BlkHops && (ok || limit != 0 || count != 0) {
			t.Errorf("Hops of type %d = %d, %d, %v", typ, limit, count, ok)
		}
		if age, ok := Age(b); own == api.BlkAge && (ok || age != 0) {
			t.Errorf("Age of type %d = %d, %v", typ, age, ok)
		}
		if e, ok := Previous(b); own == api.BlkPrevious && (ok || e != (api.Eid{})) {
			t.Errorf("Previous of type %d = %v, %v", typ, e, ok)
		}
	}
}

// TestContentsOfAnyBlock: what Data is hangs on Type and Data alone.
func TestContentsOfAnyBlock(t *testing.T) {
	for _, b := range []api.Block{{}, {Number: 1}, {Number: 9, Flags: 77, Crc: 1}, {Number: 9, Crc: -1}, {Crc: 3}} {
		b.Type, b.Data = api.BlkHops, []byte{0x82, 5, 1}
		if limit, count, ok := Hops(b); !ok || limit != 5 || count != 1 {
			t.Errorf("Hops of %v = %d, %d, %v", b, limit, count, ok)
		}
		b.Type, b.Data = api.BlkAge, []byte{9}
		if age, ok := Age(b); !ok || age != 9 {
			t.Errorf("Age of %v = %d, %v", b, age, ok)
		}
		b.Type, b.Data = api.BlkPrevious, []byte{0x82, 2, 0x82, 3, 7}
		if e, ok := Previous(b); !ok || e != (api.Eid{Scheme: api.Ipn, Node: 3, Service: 7}) {
			t.Errorf("Previous of %v = %v, %v", b, e, ok)
		}
	}
}

func TestMake(t *testing.T) {
	for _, c := range []struct {
		kind, number uint64
		x            api.Item
		data         string
	}{
		{1, 1, cbor.Uint(5), "05"},
		{7, 2, cbor.Uint(100), "18 64"},
		{10, math.MaxUint64, cbor.Array(cbor.Uint(24), cbor.Uint(3)), "82 18 18 03"},
		{6, 3, cbor.Array(cbor.Uint(2), cbor.Array(cbor.Uint(3), cbor.Uint(7))), "82 02 82 03 07"},
		{255, 1, cbor.Text("a"), "61 61"},
		{2, 2, cbor.Bytes(nil), "40"},
		{2, 1, api.Item{}, "00"},
		{11, 2, api.Item{Kind: api.ItemEndless, List: []api.Item{cbor.Uint(1)}}, "9f 01 ff"},
		{1, 1, cbor.Bytes(make([]byte, 4093)), "59 0f fd" + strings.Repeat("00", 4093)}, // 4096 bytes
		{1, 1, cbor.Array(make([]api.Item, 4093)...), "99 0f fd" + strings.Repeat("00", 4093)},
	} {
		b, errno := Make(c.kind, c.number, c.x)
		want := api.Block{Type: c.kind, Number: c.number, Crc: 2, Data: unhex(t, c.data)}
		if errno != api.OK || !same(b, want) {
			t.Errorf("Make(%d, %d, ..) = %.60v, %d, not %.60v", c.kind, c.number, b, errno, want)
		}
	}
}

func TestMakeRefuses(t *testing.T) {
	deep := cbor.Uint(1)
	for range 9 {
		deep = cbor.Array(deep)
	}
	wrong, many := api.Item{Kind: 1}, cbor.Array(make([]api.Item, 4096)...)
	for _, c := range []struct {
		kind, number uint64
		x            api.Item
		want         api.Errno
	}{
		// items that may not be
		{1, 1, wrong, api.ErrArg},
		{1, 1, cbor.Text("\x00"), api.ErrArg},
		{1, 1, cbor.Array(wrong), api.ErrArg},
		{1, 1, api.Item{Kind: api.ItemUint, Data: []byte{1}}, api.ErrArg},
		{1, 1, deep, api.ErrDeep},
		{1, 1, many, api.ErrDeep},
		{1, 1, cbor.Array(deep, wrong), api.ErrArg},
		// blocks that may not be
		{0, 1, cbor.Uint(5), api.ErrBlock},
		{256, 1, cbor.Uint(5), api.ErrBlock},
		{257, 1, cbor.Uint(5), api.ErrBlock},
		{1<<32 + 7, 1, cbor.Uint(5), api.ErrBlock},
		{math.MaxUint64, 1, cbor.Uint(5), api.ErrBlock},
		{7, 0, cbor.Uint(5), api.ErrBlock},
		{1, 0, cbor.Uint(5), api.ErrBlock},
		{1, 2, cbor.Uint(5), api.ErrBlock},
		{1, 1<<32 + 1, cbor.Uint(5), api.ErrBlock},
		{1, 1, cbor.Bytes(make([]byte, 4094)), api.ErrBlock}, // 4097 bytes
		{1, 1, cbor.Bytes(make([]byte, 1<<16)), api.ErrBlock},
		{1, 1, cbor.Array(make([]api.Item, 4094)...), api.ErrBlock},
		// both: the item's error is told
		{0, 0, wrong, api.ErrArg},
		{256, 1, deep, api.ErrDeep},
		{1, 2, many, api.ErrDeep},
		{1, 2, cbor.Array(deep, wrong), api.ErrArg},
	} {
		if b, errno := Make(c.kind, c.number, c.x); errno != c.want || !zero(b) {
			t.Errorf("Make(%d, %d, %.60v) = %.60v, %d, not error %d", c.kind, c.number, c.x, b, errno, c.want)
		}
	}
}

// TestMakeAndRead: what is made of an item is read as that.
func TestMakeAndRead(t *testing.T) {
	hops, _ := Make(api.BlkHops, 2, cbor.Array(cbor.Uint(30), cbor.Uint(4)))
	if limit, count, ok := Hops(hops); !ok || limit != 30 || count != 4 {
		t.Errorf("hops: %d, %d, %v", limit, count, ok)
	}
	age, _ := Make(api.BlkAge, 3, cbor.Uint(1000))
	if n, ok := Age(age); !ok || n != 1000 {
		t.Errorf("age: %d, %v", n, ok)
	}
	previous, _ := Make(api.BlkPrevious, 4, cbor.Array(cbor.Uint(1), cbor.Text("//n/")))
	if e, ok := Previous(previous); !ok || e != (api.Eid{Scheme: api.Dtn, Name: "//n/"}) {
		t.Errorf("previous: %v, %v", e, ok)
	}
	for _, b := range []api.Block{hops, age, previous} {
		w, errno := Encode(b)
		if got, n, back := Decode(w); errno != api.OK || back != api.OK || n != len(w) || !same(got, b) {
			t.Errorf("%v comes back as %v, %d, %d", b, got, errno, back)
		}
	}
}

// P5.5

func TestThereAndBack(t *testing.T) {
	for _, b := range all() {
		w, errno := Encode(b)
		if got, n, back := Decode(w); errno != api.OK || back != api.OK || n != len(w) || !same(got, b) {
			t.Errorf("%.60v comes back as %.60v, %d, %d, %d", b, got, n, errno, back)
		}
	}
}

// TestTurnedBits: a turned bit of Data, or of the sum, is told as a wrong sum; one of the rest is told somehow.
func TestTurnedBits(t *testing.T) {
	for _, b := range all() {
		if b.Crc == 0 {
			continue
		}
		w, _ := Encode(b)
		sum := 2 * b.Crc
		data := len(w) - sum - 1 - len(b.Data)
		step := 1
		if len(w) > 1000 {
			step = 13
		}
		for i := 0; i < 8*len(w); i += step {
			w[i/8] ^= 1 << (i % 8)
			at := i / 8
			got, n, errno := Decode(w)
			if inSum := at >= len(w)-sum; inSum || at >= data && at < data+len(b.Data) {
				if errno != api.ErrCrc || n != 0 || !zero(got) {
					t.Errorf("bit %d of %.60v turned: %.60v, %d, %d", i, b, got, n, errno)
				}
			} else if errno == api.OK {
				t.Errorf("bit %d of %.60v turned is not told", i, b)
			}
			w[i/8] ^= 1 << (i % 8)
		}
	}
}

// TestTurnedBitsOfAllData turns bits of each byte of the longest Data, and of its sum.
func TestTurnedBitsOfAllData(t *testing.T) {
	for _, kind := range []int{1, 2} {
		w, _ := Encode(api.Block{Type: 1, Number: 1, Crc: kind, Data: row(4096)})
		head := len(w) - 1 - 2*kind // of the sum
		for at := len(w) - 1; at >= head-4096; at-- {
			if at == head {
				continue
			}
			w[at] ^= 1 << (at % 8)
			refused(t, w, api.ErrCrc)
			w[at] ^= 1 << (at % 8)
		}
	}
}

// TestTurnedBitsWithoutSum: without a sum other Data is another block.
func TestTurnedBitsWithoutSum(t *testing.T) {
	b := api.Block{Type: 7, Number: 2, Data: []byte("abc")}
	w, _ := Encode(b)
	w[len(w)-1] ^= 1
	b.Data = []byte("abb")
	if got, n, errno := Decode(w); errno != api.OK || n != len(w) || !same(got, b) {
		t.Errorf("Decode(% x) = %v, %d, %d", w, got, n, errno)
	}
}

// model tells in another way than Decode what bytes are: it asks each part of the item by itself.
func model(w []byte) (api.Block, int, api.Errno) {
	x, n, errno := cbor.Decode(w)
	if errno != api.OK {
		return api.Block{}, 0, errno
	}
	bad := func() (api.Block, int, api.Errno) { return api.Block{}, 0, api.ErrBlock }
	if x.Kind != api.ItemArray || len(x.List) != 5 && len(x.List) != 6 {
		return bad()
	}
	for i, y := range x.List {
		want := api.ItemUint
		if i > 3 {
			want = api.ItemBytes
		}
		if y.Kind != want {
			return bad()
		}
	}
	typ, number, kind, data := x.List[0].N, x.List[1].N, x.List[3].N, x.List[4].Data
	if typ == 0 || typ > 255 || number == 0 || kind > 2 || len(data) > 4096 || typ == 1 && number != 1 {
		return bad()
	}
	if (kind != 0) != (len(x.List) == 6) || kind != 0 && len(x.List[5].Data) != int(2*kind) {
		return bad()
	}
	if !bytes.Equal(w[:n], sealed(w[:n], int(kind))) {
		return api.Block{}, 0, api.ErrCrc
	}
	return api.Block{Type: typ, Number: number, Flags: x.List[2].N, Crc: int(kind), Data: data}, n, api.OK
}

// chance answers a block of a rule that looks like chance, which may be or not.
func chance(r *rand.Rand) api.Block {
	pick := func(l ...uint64) uint64 { return l[r.Intn(len(l))] }
	return api.Block{
		Type:   pick(0, 1, 1, 6, 7, 10, 11, 23, 24, 255, 256, 257, math.MaxUint64),
		Number: pick(0, 1, 1, 1, 2, 3, 23, 24, 255, 256, math.MaxUint64),
		Flags:  pick(0, 0, 1, 16, 24, 256, math.MaxUint64),
		Crc:    int(pick(0, 1, 1, 2, 2, 3)),
		Data:   row(r.Intn(40)),
	}
}

// changed answers bytes with one thing otherwise, the sum sometimes made right again.
func changed(r *rand.Rand, w []byte) []byte {
	w = bytes.Clone(w)
	at := r.Intn(len(w))
	switch r.Intn(6) {
	case 0:
		w[at] ^= 1 << r.Intn(8)
	case 1:
		w[at] = byte(r.Intn(256))
	case 2:
		w = append(w[:at:at], append([]byte{byte(r.Intn(256))}, w[at:]...)...)
	case 3:
		w = append(w[:at:at], w[at+1:]...)
	case 4:
		w = append(w, row(r.Intn(4))...)
	case 5:
		w[0] = []byte{0x84, 0x85, 0x86, 0x87, 0x9f}[r.Intn(5)]
	}
	if kind := r.Intn(3); len(w) > 4 {
		w = sealed(w, kind)
	}
	return w
}

// TestAgainstModel holds Decode against the model, of bytes that are a block's, or nearly so.
func TestAgainstModel(t *testing.T) {
	r := rand.New(rand.NewSource(5))
	told := map[api.Errno]int{}
	for range 60000 {
		w := wire(chance(r))
		for range r.Intn(3) {
			if len(w) > 0 {
				w = changed(r, w)
			}
		}
		want, size, wrong := model(w)
		got, n, errno := Decode(w)
		if errno != wrong || n != size || !same(got, want) {
			t.Fatalf("Decode(% x) = %v, %d, %d, not %v, %d, %d", w, got, n, errno, want, size, wrong)
		}
		told[errno]++
		if errno != api.OK {
			continue
		}
		// Bytes that are read are written as they were.
		if again, errno := Encode(got); errno != api.OK || !bytes.Equal(again, w[:n]) {
			t.Fatalf("% x is written as % x, %d", w[:n], again, errno)
		}
	}
	for _, errno := range []api.Errno{api.OK, api.ErrShort, api.ErrCbor, api.ErrBlock, api.ErrCrc} {
		if told[errno] < 500 {
			t.Errorf("%d was told but %d times", errno, told[errno])
		}
	}
}

// TestDecodeEnds: bytes that are many, deep, or of chance.
func TestDecodeEnds(t *testing.T) {
	for _, c := range []struct {
		w    []byte
		want api.Errno
	}{
		{bytes.Repeat([]byte{0x81}, 1<<20), api.ErrDeep},
		{bytes.Repeat([]byte{0x9f}, 1<<20), api.ErrDeep},
		{append([]byte{0x9f}, make([]byte, 1<<20)...), api.ErrDeep},
		{append([]byte{0x5a, 0, 0x10, 0, 0}, make([]byte, 1<<20)...), api.ErrBlock},
		{append([]byte{0x85, 1, 1, 0, 0, 0x5a, 0, 0x10, 0, 0}, make([]byte, 1<<20)...), api.ErrBlock},
		{bytes.Repeat([]byte{0xff}, 1<<20), api.ErrCbor},
	} {
		refused(t, c.w, c.want)
	}
	r := rand.New(rand.NewSource(6))
	for range 50000 {
		w := make([]byte, r.Intn(30))
		r.Read(w)
		want, size, wrong := model(w)
		if got, n, errno := Decode(w); errno != wrong || n != size || !same(got, want) {
			t.Fatalf("Decode(% x) = %v, %d, %d, not %v, %d, %d", w, got, n, errno, want, size, wrong)
		}
	}
}

// R3

func TestArgumentsStay(t *testing.T) {
	for _, b := range append(all(), none()...) {
		// Room behind Data's end, so that what is appended would show.
		room := append(bytes.Clone(b.Data), 9, 9, 9, 9, 9, 9)
		was := bytes.Clone(room)
		b.Data = room[:len(b.Data)]
		Check(b)
		Hops(b)
		Age(b)
		Previous(b)
		w, _ := Encode(b)
		for i := range w {
			w[i] ^= 255
		}
		if !bytes.Equal(room, was) {
			t.Fatalf("Data of %.60v was changed", b)
		}
	}
	for _, c := range written() {
		w := unhex(t, c.want)
		w[len(w)-1] ^= 1
		was := bytes.Clone(w)
		Decode(w)
		if !bytes.Equal(w, was) {
			t.Errorf("Decode changed % .60x to % .60x", was, w)
		}
	}
}

func TestAnswersAreNew(t *testing.T) {
	for _, c := range written() {
		w := unhex(t, c.want)
		was := bytes.Clone(w)
		b, _, _ := Decode(w)
		other, _, _ := Decode(w)
		for i := range b.Data {
			b.Data[i] ^= 255
		}
		_ = append(b.Data, 1, 2, 3)
		if !bytes.Equal(w, was) || !same(other, c.b) {
			t.Errorf("what was read of % .60x shares memory", was)
		}
		clear(w)
		if !same(other, c.b) {
			t.Errorf("what was read of % .60x hangs on it", was)
		}
	}
	x := cbor.Bytes([]byte("abc"))
	b, _ := Make(7, 2, x)
	clear(x.Data)
	if string(b.Data) != "\x43abc" {
		t.Errorf("Make keeps its item: % x", b.Data)
	}
	clear(b.Data)
	if !bytes.Equal(x.Data, make([]byte, 3)) {
		t.Errorf("Make's answer shares its item: % x", x.Data)
	}
	previous := api.Block{Type: api.BlkPrevious, Number: 2, Data: unhex(t, "82 01 65 2f 2f 61 2f 62")}
	e, _ := Previous(previous)
	clear(previous.Data)
	if e.Name != "//a/b" {
		t.Errorf("Previous hangs on its block: %q", e.Name)
	}
}

// Why there is no block is an error of a type of its own, and found.
func TestWhyIsFound(t *testing.T) {
	for _, c := range []struct {
		b    api.Block
		want string
	}{
		{api.Block{Number: 1}, "block: no such type: error 50"},
		{api.Block{Type: 256, Number: 1}, "block: no such type: error 50"},
		{api.Block{Type: 7}, "block: the primary block's number: error 50"},
		{api.Block{Type: 1, Number: 2}, "block: a payload of another number: error 50"},
		{api.Block{Type: 1, Number: 1, Crc: 3}, "block: no such sum: error 50"},
		{api.Block{Type: 1, Number: 1, Data: make([]byte, 4097)}, "block: more data than a bundle's: error 50"},
	} {
		err := check(c.b)
		var f fault
		if !errors.As(err, &f) || f.number != api.ErrBlock || err.Error() != c.want {
			t.Errorf("of %.60v: %v, not %s", c.b, err, c.want)
		}
	}
	for _, c := range []struct {
		w      string
		number api.Errno
		want   string
	}{
		{"85", api.ErrShort, "block: no item: error 30"},
		{"ff", api.ErrCbor, "block: no item: error 31"},
		{"80", api.ErrBlock, "block: no such type: error 50"},
		{"9f 01 01 00 00 41 05 ff", api.ErrBlock, "block: another form than a block's: error 50"},
		{"86 01 01 00 01 41 05 42 00 00", api.ErrCrc, "block: a sum that is not right: error 51"},
	} {
		_, _, err := read(unhex(t, c.w))
		var f fault
		if !errors.As(err, &f) || f.number != c.number || err.Error() != c.want {
			t.Errorf("of %s: %v, not %s", c.w, err, c.want)
		}
	}
	if numberOf(nil) != api.OK || numberOf(errors.New("else")) != api.OK {
		t.Error("of nothing wrong")
	}
}

// The chapter's example.
func TestExample(t *testing.T) {
	b := api.Block{Type: 1, Number: 1, Data: []byte{5}}
	w, errno := Encode(b)
	if errno != api.OK || !bytes.Equal(w, unhex(t, "85 01 01 00 00 41 05")) {
		t.Errorf("Encode = % x, %d", w, errno)
	}
	if got, n, errno := Decode(w); errno != api.OK || n != 7 || !same(got, b) {
		t.Errorf("Decode = %v, %d, %d", got, n, errno)
	}
}
