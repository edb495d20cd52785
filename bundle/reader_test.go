package bundle

import (
	"bytes"
	"encoding/binary"
	"math"
	"slices"
	"strings"
	"testing"

	"fairlead/api"
)

// P6.3

// refused asks that Decode answers an error, and nothing besides.
func refused(t *testing.T, w []byte, want api.Errno) {
	t.Helper()
	if b, errno := Decode(w); errno != want || !zero(b) {
		t.Errorf("Decode(% .200x) = %s, %d, not error %d", w, brief(b), errno, want)
	}
}

// accepted asks that Decode answers a bundle.
func accepted(t *testing.T, w []byte, want api.Bundle) {
	t.Helper()
	if b, errno := Decode(w); errno != api.OK || !same(b, want) {
		t.Errorf("Decode(% .200x) = %s, %d, not %s", w, brief(b), errno, brief(want))
	}
}

func TestDecode(t *testing.T) {
	accepted(t, unhex(t, baseBytes), base())
	for _, c := range written() {
		w := append([]byte{0x9f}, unhex(t, c.want)...)
		accepted(t, append(w, wireBlocks(c.b.Blocks)...), c.b)
	}
	for _, b := range all() {
		accepted(t, wire(b), b)
	}
}

func TestDecodeOfLengths(t *testing.T) {
	for kind := range 3 {
		for _, size := range []int{100, 4095, 4096} {
			b := sized(t, size, kind)
			accepted(t, wire(b), b)
		}
		for _, size := range []int{4097, 4098, 5000} {
			refused(t, wire(sized(t, size, kind)), api.ErrBundle)
		}
	}
	// Too many bytes are told ahead of what else is wrong with them.
	version := wire(base())
	version[2] = 6
	for _, w := range [][]byte{version, wire(with(base(), func(b *api.Bundle) { b.Flags = 1 })), {0x9f, 0x9f}, {0x9f, 0xff}, {0x9f}, framed(wirePrimary(base()), nil)} {
		behind := make([]byte, 4097-len(w))
		refused(t, append(w, behind...), api.ErrBundle)
	}
}

// TestDecodeOfFirstBytes asks each first byte, ahead of a bundle's rest and of none.
func TestDecodeOfFirstBytes(t *testing.T) {
	refused(t, nil, api.ErrBundle)
	refused(t, []byte{}, api.ErrBundle)
	refused(t, make([]byte, 0, 100), api.ErrBundle)
	for first := range 256 {
		w := unhex(t, baseBytes)
		w[0] = byte(first)
		if first == 0x9f {
			accepted(t, w, base())
			refused(t, w[:1:1], api.ErrShort)
			continue
		}
		refused(t, w, api.ErrBundle)
		refused(t, w[:1], api.ErrBundle)
		refused(t, append([]byte{byte(first)}, w...), api.ErrBundle)
	}
	refused(t, unhex(t, baseBytes)[1:], api.ErrBundle)
	refused(t, append([]byte{0x9f}, unhex(t, baseBytes)...), api.ErrBundle)
}

// TestDecodeOfEndsWithin: wherever the bytes end ahead of 0xff, that is told, room behind them or not.
func TestDecodeOfEndsWithin(t *testing.T) {
	for _, b := range append(all(), sized(t, 4096, 1)) {
		w, step := wire(b), 1
		if len(w) > 200 {
			step = 17
		}
		for size := 1; size < len(w); size += step {
			refused(t, w[:size], api.ErrShort)
			refused(t, bytes.Clone(w[:size]), api.ErrShort)
		}
		refused(t, w[:len(w)-1], api.ErrShort)
	}
}

// TestDecodeOfNoItem: what layer 3 tells of the primary block's item is told, whatever else is wrong with it.
func TestDecodeOfNoItem(t *testing.T) {
	for _, c := range []struct {
		w    string
		want api.Errno
	}{
		{"", api.ErrShort},
		{"88", api.ErrShort},
		{"88 06", api.ErrShort},
		{"88 07 00 00 82 02 82 03 07 82 02 82 01 02 82 01 00 82 03 04 19 03", api.ErrShort},
		{"9f 07 00", api.ErrShort},
		{"5a ff ff ff ff", api.ErrShort},
		{"9b ff ff ff ff ff ff ff ff 06", api.ErrShort},
		{"ff", api.ErrCbor},
		{"ff ff", api.ErrCbor},
		{"1c", api.ErrCbor},
		{"20", api.ErrCbor},
		{"a0", api.ErrCbor},
		{"18 07", api.ErrCbor},
		{"88 18 07", api.ErrCbor},
		{"88 06 00 00 82 02 82 03 07 82 02 82 01 02 82 01 00 82 03 04 19 00 e8", api.ErrCbor},
		{"88 06 00 00 00 00 00 00 20", api.ErrCbor},
		{"88 07 00 00 82 01 61 00", api.ErrCbor},
		{"98 08 07 00 00 82 02 82 03 07 82 02 82 01 02 82 01 00 82 03 04 19 03 e8", api.ErrCbor},
		{"81 81 81 81 81 81 81 81 81", api.ErrDeep},
		{"88 06 81 81 81 81 81 81 81 81", api.ErrDeep},
		{"9f 9f 9f 9f 9f 9f 9f 9f 9f", api.ErrDeep},
	} {
		refused(t, framed(unhex(t, c.w), nil), c.want)
	}
	// As many parts as a bundle's bytes hold are no more than an item may have.
	refused(t, framed(head(4, 4092), make([]byte, 4092)), api.ErrBundle)
	refused(t, framed([]byte{0x9f}, make([]byte, 4094)), api.ErrShort)
}

// TestDecodeOfOtherItems: an item that is no array of 8 or 9 items of which the first is a number is told ahead of its version.
func TestDecodeOfOtherItems(t *testing.T) {
	numbers := func(n int) string { return strings.Repeat(" 07", n) }
	for _, w := range []string{
		"00", "07", "1b ff ff ff ff ff ff ff ff", "40", "41 07", "60", "61 61", "80", "81 07", "82 07 07",
		"48 07 07 07 07 07 07 07 07", "68 61 61 61 61 61 61 61 61",
		"9f ff", "9f 07 ff", "9f" + numbers(8) + "ff", "9f" + numbers(9) + "ff", "9f 06" + numbers(7) + "ff", "9f 06" + numbers(8) + "ff",
		"9f 07 00 00 82 02 82 03 07 82 02 82 01 02 82 01 00 82 03 04 19 03 e8 ff",
		"87" + numbers(7), "8a" + numbers(10), "8b" + numbers(11), "97" + numbers(23), "98 18" + numbers(24),
		"87 06" + numbers(6), "8a 06" + numbers(9),
		"88 40" + numbers(7), "88 41 07" + numbers(7), "88 60" + numbers(7), "88 61 61" + numbers(7), "88 80" + numbers(7), "88 81 07" + numbers(7), "88 9f ff" + numbers(7),
		"89 40" + numbers(8), "89 41 07" + numbers(8), "89 60" + numbers(8), "89 80" + numbers(8), "89 81 07" + numbers(8), "89 9f 07 ff" + numbers(8),
		"88 41 06" + numbers(7), "89 41 06" + numbers(8),
		"88" + numbers(8), "89" + numbers(9),
		"81 88 07 00 00 82 02 82 03 07 82 02 82 01 02 82 01 00 82 03 04 19 03 e8",
	} {
		for _, behind := range []string{"", "ff", "ff 00", "20", "85 01 01 00 00 43 61 62 63 ff"} {
			refused(t, framed(unhex(t, w), unhex(t, behind)), api.ErrBundle)
		}
	}
}

func TestDecodeOfVersions(t *testing.T) {
	for _, version := range []uint64{0, 1, 6, 8, 23, 24, 255, 256, 263, 1<<32 + 7, 1<<63 + 7, math.MaxUint64} {
		for kind := range 3 {
			// ahead of its form, its sum, what is behind it, and what may be
			l := parts(with(base(), func(b *api.Bundle) { b.Crc = kind }))
			l[0] = head(0, version)
			blocks := wireBlocks(base().Blocks)
			refused(t, framed(sealed(joined(l), uint64(kind)), blocks), api.ErrVersion)
			refused(t, framed(joined(l), blocks), api.ErrVersion)
			refused(t, framed(joined(l), []byte{0x20}), api.ErrVersion)
			refused(t, framed(joined(l), append(blocks, 0)), api.ErrVersion)
			refused(t, framed(joined(l), nil), api.ErrVersion)
			l[1] = head(0, api.FlagFragment)
			refused(t, framed(joined(l), blocks), api.ErrVersion)
			for i := range l[1:] {
				l[1+i] = []byte{0x40}
			}
			refused(t, framed(joined(l), blocks), api.ErrVersion)
			// Where it is no array of 8 or 9 items, that is told.
			refused(t, framed(joined(l[:7]), blocks), api.ErrBundle)
			refused(t, framed(joined(append(l, l...)), blocks), api.ErrBundle)
		}
	}
}

// TestDecodeOfOtherParts puts another item at each place of a primary block, the sum made right again and not.
func TestDecodeOfOtherParts(t *testing.T) {
	others := []string{"00", "05", "40", "41 00", "42 03 04", "60", "61 61", "80", "81 00", "82 00 00", "9f ff", "9f 00 ff", "9f 03 04 ff"}
	endpoints := append(slices.Clone(others),
		"82 00 00", "82 01 01", "82 01 60", "82 01 40", "82 01 45 2f 2f 61 2f 62", "82 01 61 61", "82 01 64 2f 2f 41 2f", "82 01 82 03 07", "82 03 00", "82 02 00",
		"82 02 82 00 07", "82 02 82 03 1b 00 00 00 01 00 00 00 00", "82 02 82 1b 00 00 00 01 00 00 00 00 07", "82 02 81 03", "82 02 83 03 07 00", "82 02 9f 03 07 ff", "82 02 82 41 03 07", "82 02 82 03 41 07",
		"9f 02 82 03 07 ff", "9f 01 00 ff", "83 02 82 03 07 00", "83 01 00 00", "81 82 03 07", "82 1b 00 00 00 01 00 00 00 01 00", "82 1b 00 00 00 01 00 00 00 02 82 03 07", "82 41 02 82 03 07")
	times := []string{"00", "40", "42 03 04", "60", "62 61 61", "80", "81 03", "83 03 04 05", "9f ff", "9f 03 04 ff", "82 40 04", "82 03 40", "82 41 03 04", "82 03 41 04", "82 61 61 04", "82 03 60", "82 80 04", "82 03 80", "82 03 81 04", "82 82 03 04 82 03 04", "82 9f ff 04", "81 82 03 04"}
	for kind := range uint64(3) {
		for place := 1; place < 8; place++ {
			l := others[2:]
			switch place {
			case 3, 4, 5:
				l = endpoints
			case 6:
				l = times
			}
			for _, other := range l {
				p := parts(with(base(), func(b *api.Bundle) { b.Crc = int(kind) }))
				p[place] = unhex(t, other)
				for _, behind := range [][]byte{wireBlocks(base().Blocks), {0xff}, {0x20}, nil} {
					refused(t, framed(sealed(joined(p), kind), behind), api.ErrBundle)
					refused(t, framed(joined(p), behind), api.ErrBundle)
				}
			}
		}
	}
}

// TestDecodeOfKinds: numbers that are no sum's kind, of 8 items and of 9.
func TestDecodeOfKinds(t *testing.T) {
	for _, kind := range []uint64{3, 4, 23, 24, 255, 256, 257, 258, 65536, 1 << 32, 1<<32 + 1, 1<<32 + 2, 1 << 62, 1 << 63, 1<<63 + 1, 1<<63 + 2, math.MaxUint64 - 1, math.MaxUint64} {
		p := parts(with(base(), func(b *api.Bundle) { b.Crc = 0 }))
		p[2] = head(0, kind)
		for _, behind := range [][]byte{wireBlocks(base().Blocks), {0x20}, nil} {
			refused(t, framed(joined(p), behind), api.ErrBundle)
			for size := range uint64(10) {
				w := joined(append(slices.Clone(p), append(head(2, size), make([]byte, size)...)))
				refused(t, framed(w, behind), api.ErrBundle)
				if size == 2 || size == 4 {
					refused(t, framed(sealed(w, size/2), behind), api.ErrBundle)
				}
			}
		}
	}
}

// TestDecodeOfSums: sums that are missing, where there should be none, too short, too long, of the other kind, or no bytes.
func TestDecodeOfSums(t *testing.T) {
	blocks := wireBlocks(base().Blocks)
	for kind := range uint64(3) {
		p := parts(with(base(), func(b *api.Bundle) { b.Crc = int(kind) }))[:8]
		if kind != 0 {
			refused(t, framed(joined(p), blocks), api.ErrBundle)
			// Where nothing is behind it, not even room.
			refused(t, slices.Clip(framed(joined(p), nil)), api.ErrBundle)
		}
		for size := range uint64(10) {
			for _, major := range []byte{2, 3} {
				w := joined(append(slices.Clone(p), append(head(major, size), bytes.Repeat([]byte("a"), int(size))...)))
				if major == 2 && kind != 0 && size == 2*kind {
					refused(t, framed(w, blocks), api.ErrCrc)
					accepted(t, framed(sealed(w, kind), blocks), with(base(), func(b *api.Bundle) { b.Crc = int(kind) }))
					continue
				}
				refused(t, framed(w, blocks), api.ErrBundle)
				// With a sum that is right in its last bytes, too.
				for other := uint64(1); other < 3 && major == 2 && 2*other <= size; other++ {
					refused(t, framed(sealed(w, other), blocks), api.ErrBundle)
				}
			}
		}
		for _, sum := range []string{"00", "18 69", "19 69 15", "1a fc 3c a7 1e", "80", "81 42 69 15", "82 00 00", "84 00 00 00 00", "9f ff", "9f 00 00 ff"} {
			refused(t, framed(joined(append(slices.Clone(p), unhex(t, sum))), blocks), api.ErrBundle)
		}
	}
}

// TestDecodeOfWrongSums: each sum but the right one is told, ahead of what is behind it and of what may be.
func TestDecodeOfWrongSums(t *testing.T) {
	short := with(base(), func(b *api.Bundle) { b.Crc = 1 })
	p := wirePrimary(short)
	right := binary.BigEndian.Uint16(p[len(p)-2:])
	blocks := wireBlocks(short.Blocks)
	for sum := range 1 << 16 {
		if uint16(sum) != right {
			refused(t, framed(binary.BigEndian.AppendUint16(p[:len(p)-2:len(p)-2], uint16(sum)), blocks), api.ErrCrc)
		}
	}
	long := wirePrimary(base())
	for _, sum := range []string{"00 00 00 00", "ff ff ff ff", "1e a7 3c fc", "03 c3 58 e1", "fc 3c a7 1f", "7c 3c a7 1e"} {
		w := append(long[:len(long)-4:len(long)-4], unhex(t, sum)...)
		for _, behind := range [][]byte{blocks, {0xff}, {0x20}, {0x80}, nil, append(bytes.Clone(blocks), 0)} {
			refused(t, framed(w, behind), api.ErrCrc)
		}
	}
	for _, b := range []api.Bundle{
		with(base(), func(b *api.Bundle) { b.Flags = api.FlagFragment }),
		with(base(), func(b *api.Bundle) { b.Dest = dtn("") }),
		with(base(), func(b *api.Bundle) { b.Source = dtn("") }),
		with(short, func(b *api.Bundle) { b.Blocks = nil }),
	} {
		w := wire(b)
		w[len(wirePrimary(b))] ^= 0x10
		refused(t, w, api.ErrCrc)
	}
}

// TestDecodeOfTurnedBits: a turned bit of a primary block with a sum is told; one of its numbers, or of the sum, as a wrong sum.
func TestDecodeOfTurnedBits(t *testing.T) {
	for _, kind := range []int{1, 2} {
		b := with(base(), func(b *api.Bundle) {
			b.Crc, b.Source, b.Time, b.Seq, b.Life = kind, dtn("//n/s"), math.MaxUint64, math.MaxInt64, 0x0123456789abcdef
		})
		w := wire(b)
		size := len(wirePrimary(b))
		for i := 8; i < 8*(1+size); i++ {
			w[i/8] ^= 1 << (i % 8)
			if got, errno := Decode(w); errno == api.OK || !zero(got) {
				t.Errorf("bit %d of %v turned: %v, %d", i, b, got, errno)
			}
			if i/8 > size-2*kind {
				refused(t, w, api.ErrCrc)
			}
			w[i/8] ^= 1 << (i % 8)
		}
		life := size - 2*kind - 8
		for _, at := range []int{life, life + 3, life - 2, life - 9, life - 11, life - 17} {
			w[at] ^= 1
			refused(t, w, api.ErrCrc)
			w[at] ^= 1
		}
		accepted(t, w, b)
	}
}

// TestDecodeOfTurnedBitsWithoutSum: without a sum other numbers are another bundle's.
func TestDecodeOfTurnedBitsWithoutSum(t *testing.T) {
	b := with(base(), func(b *api.Bundle) { b.Crc = 0 })
	w := wire(b)
	w[len(wirePrimary(b))] ^= 1
	b.Life ^= 1
	accepted(t, w, b)
}

// wrongBytes are bytes of no block, with what layer 5 tells of them.
func wrongBytes(t *testing.T) map[string]api.Errno {
	t.Helper()
	return map[string]api.Errno{
		"85":                            api.ErrShort,
		"85 07 09 00 00 41":             api.ErrShort,
		"5a ff ff ff ff":                api.ErrShort,
		"20":                            api.ErrCbor,
		"18 07":                         api.ErrCbor,
		"85 18 07 09 00 00 41 05":       api.ErrCbor,
		"85 07 09 00 00 ff":             api.ErrCbor,
		"81 81 81 81 81 81 81 81 81":    api.ErrDeep,
		"00":                            api.ErrBlock,
		"80":                            api.ErrBlock,
		"9f ff":                         api.ErrBlock,
		"84 07 09 00 00":                api.ErrBlock,
		"85 00 09 00 00 41 05":          api.ErrBlock,
		"85 07 00 00 00 41 05":          api.ErrBlock,
		"85 01 02 00 00 41 05":          api.ErrBlock,
		"85 07 09 00 03 41 05":          api.ErrBlock,
		"86 07 09 00 01 41 05 41 00":    api.ErrBlock,
		"86 07 09 00 01 41 05 42 00 00": api.ErrCrc,
	}
}

// TestDecodeOfWrongBlocks: what layer 5 tells of a block is told, ahead of what is wrong behind it and of what may be.
func TestDecodeOfWrongBlocks(t *testing.T) {
	fragment := with(base(), func(b *api.Bundle) { b.Flags = api.FlagFragment })
	nobody := with(base(), func(b *api.Bundle) { b.Dest = dtn("") })
	for w, want := range wrongBytes(t) {
		for _, b := range []api.Bundle{base(), fragment, nobody} {
			p := wirePrimary(b)
			for n := range 4 {
				ahead := wireBlocks(b.Blocks[:n])
				behind := append(ahead[:len(ahead)-1:len(ahead)-1], unhex(t, w)...)
				refused(t, framed(p, behind), want)
				if want == api.ErrShort {
					continue
				}
				refused(t, framed(p, append(behind[:len(behind):len(behind)], 0xff)), want)
				refused(t, framed(p, append(behind[:len(behind):len(behind)], 0x81)), want)
				refused(t, framed(p, append(behind[:len(behind):len(behind)], 0xff, 0)), want)
				refused(t, framed(p, append(behind[:len(behind):len(behind)], wireBlocks(many(16))...)), want)
			}
		}
	}
}

// TestDecodeOfManyBlocks: behind MaxBlocks there is the end, or no byte, or a block too many, whatever stands there.
func TestDecodeOfManyBlocks(t *testing.T) {
	for _, flags := range []uint64{0, api.FlagFragment} {
		b := with(base(), func(b *api.Bundle) { b.Flags, b.Blocks = flags, many(16) })
		w := wire(b)
		w = w[: len(w)-1 : len(w)-1]
		refused(t, w, api.ErrShort)
		if flags == 0 {
			accepted(t, append(w, 0xff), b)
			refused(t, append(w, 0xff, 0), api.ErrBundle)
		} else {
			refused(t, append(w, 0xff), api.ErrFrag)
			refused(t, append(w, 0xff, 0), api.ErrBundle)
		}
		refused(t, append(w, wireBlock(payload("abc"))...), api.ErrBundle)
		refused(t, append(w, wireBlocks([]api.Block{payload("abc")})...), api.ErrBundle)
		refused(t, append(w, wireBlocks([]api.Block{{Type: 192, Number: 99, Crc: 1}})...), api.ErrBundle)
		for other := range wrongBytes(t) {
			refused(t, append(w, unhex(t, other)...), api.ErrBundle)
		}
		for first := range 255 {
			refused(t, append(w, byte(first)), api.ErrBundle)
			refused(t, append(w, byte(first), 0xff), api.ErrBundle)
		}
	}
	for _, n := range []int{17, 18, 40} {
		refused(t, wire(with(base(), func(b *api.Bundle) { b.Blocks = many(n) })), api.ErrBundle)
	}
	// One block ahead, that place is no end yet: what stands there is told.
	b := with(base(), func(b *api.Bundle) { b.Blocks = many(15) })
	w := wire(b)
	for other, want := range wrongBytes(t) {
		refused(t, append(w[:len(w)-1:len(w)-1], unhex(t, other)...), want)
	}
}

// TestDecodeOfBytesBehind: bytes that are left are told ahead of what may be.
func TestDecodeOfBytesBehind(t *testing.T) {
	fragment := with(base(), func(b *api.Bundle) { b.Flags = api.FlagFragment })
	for _, b := range []api.Bundle{base(), fragment, with(base(), func(b *api.Bundle) { b.Blocks = nil })} {
		for _, behind := range [][]byte{{0}, {0xff}, {0x9f}, {0x20}, {0xff, 0xff}, wire(base()), make([]byte, 1000), wireBlocks(base().Blocks)} {
			refused(t, append(wire(b), behind...), api.ErrBundle)
		}
	}
	w := wire(sized(t, 4095, 0))
	refused(t, append(w, 0), api.ErrBundle)
}

// TestDecodeOfWhatMayNotBe: Check's error comes at the end.
func TestDecodeOfWhatMayNotBe(t *testing.T) {
	for _, c := range wrongWholes() {
		b := with(base(), c.change)
		refused(t, wire(b), api.ErrBundle)
		b.Flags |= api.FlagFragment
		refused(t, wire(b), api.ErrFrag)
	}
	for _, b := range all() {
		b.Flags |= api.FlagFragment
		refused(t, wire(b), api.ErrFrag)
	}
}

// P6.5

func TestThereAndBack(t *testing.T) {
	for _, b := range append(all(), sized(t, 4096, 0), sized(t, 4096, 2)) {
		w, errno := Encode(b)
		got, back := Decode(w)
		if errno != api.OK || back != api.OK || !same(got, b) {
			t.Errorf("%s comes back as %s, %d, %d", brief(b), brief(got), errno, back)
		}
		if again, errno := Encode(got); errno != api.OK || !bytes.Equal(again, w) {
			t.Errorf("% .200x is written as % .200x, %d", w, again, errno)
		}
	}
}

// TestDecodeEnds: bytes that are many, deep, or all alike.
func TestDecodeEnds(t *testing.T) {
	for first := range 256 {
		for _, size := range []int{1, 2, 9, 100, 4095, 4096, 4097, 1 << 20} {
			w := bytes.Repeat([]byte{byte(first)}, size)
			w[0] = 0x9f
			got, errno := Decode(w)
			if want, wrong := model(w); errno != wrong || !same(got, want) || errno == api.OK {
				t.Fatalf("%d of %d bytes %x: %d", errno, size, first, wrong)
			}
		}
	}
}
