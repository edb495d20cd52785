package crc

import (
	"bytes"
	"hash/crc32"
	"math"
	"math/bits"
	"testing"

	"fairlead/api"
)

// checksum is one of the two sums, told as a number of either length.
type checksum struct {
	name string
	kind int
	size int    // bits
	poly uint64 // the whole polynomial, its highest power in the highest bit
	of   func(b []byte) uint64
}

func checksums() []checksum {
	return []checksum{
		{"Short", 1, 16, 0x11021, func(b []byte) uint64 { return uint64(Short(b)) }},
		{"Long", 2, 32, 0x11edc6f41, func(b []byte) uint64 { return uint64(Long(b)) }},
	}
}

// row has bytes that look like chance, of a rule.
func row(size int, seed uint32) []byte {
	b := make([]byte, size)
	for i := range b {
		seed = seed*1664525 + 1013904223
		b[i] = byte(seed >> 24)
	}
	return b
}

// rows has rows of one size: all noughts, all ones, and of each kind of byte.
func rows(size int) [][]byte {
	return [][]byte{
		make([]byte, size),
		bytes.Repeat([]byte{0xff}, size),
		row(size, 1),
		row(size, 77),
	}
}

// turned answers b with the bits turned, from bit at on, that pattern has. Bits go as they come to a sum: a byte's lowest first.
func turned(b []byte, at int, pattern uint64) []byte {
	c := bytes.Clone(b)
	for ; pattern != 0; pattern &= pattern - 1 {
		i := at + bits.TrailingZeros64(pattern)
		c[i/8] ^= 1 << (i % 8)
	}
	return c
}

// divided reckons a sum in another way: what is left of the bits, the first ones turned, divided by the polynomial.
func divided(s checksum, b []byte) uint64 {
	n := len(b) * 8
	line := make([]uint64, n+s.size)
	for i := range n {
		line[i] = uint64(b[i/8] >> (i % 8) & 1)
	}
	for i := range s.size {
		line[i] ^= 1
	}
	for i := range n {
		if line[i] == 0 {
			continue
		}
		for k := range s.size + 1 {
			line[i+k] ^= s.poly >> (s.size - k) & 1
		}
	}
	var left uint64
	for i := range s.size {
		left |= (line[n+i] ^ 1) << i
	}
	return left
}

// P2.1

func TestShort(t *testing.T) {
	for _, c := range []struct {
		b    string
		want uint16
	}{
		{"", 0},
		{"\x00", 0xf078},
		{"\xff", 0xff00},
		{"\xff\xff", 0xffff},
		{"123456789", 0x906e},
	} {
		if got := Short([]byte(c.b)); got != c.want {
			t.Errorf("Short(%q) = %#04x, not %#04x", c.b, got, c.want)
		}
	}
}

func TestLong(t *testing.T) {
	up, down := make([]byte, 32), make([]byte, 32)
	for i := range 32 {
		up[i], down[i] = byte(i), byte(31-i)
	}
	for _, c := range []struct {
		b    []byte
		want uint32
	}{
		{nil, 0},
		{[]byte{0}, 0x527d5351},
		{[]byte{0xff, 0xff, 0xff, 0xff}, 0xffffffff},
		{[]byte("a"), 0xc1d04330},
		{[]byte("123456789"), 0xe3069283},
		// The examples of RFC 3720.
		{make([]byte, 32), 0x8a9136aa},
		{bytes.Repeat([]byte{0xff}, 32), 0x62a8ab43},
		{up, 0x46dd794e},
		{down, 0x113fdb5c},
	} {
		if got := Long(c.b); got != c.want {
			t.Errorf("Long(% x) = %#08x, not %#08x", c.b, got, c.want)
		}
	}
}

func TestSumsOfNothing(t *testing.T) {
	for _, b := range [][]byte{nil, {}, make([]byte, 0, 8), []byte{1, 2, 3}[:0]} {
		if Short(b) != 0 || Long(b) != 0 {
			t.Errorf("of no bytes: %#x, %#x", Short(b), Long(b))
		}
		if got := Bytes(1, b); !bytes.Equal(got, []byte{0, 0}) {
			t.Errorf("Bytes(1) of no bytes = % x", got)
		}
		if got := Bytes(2, b); !bytes.Equal(got, []byte{0, 0, 0, 0}) {
			t.Errorf("Bytes(2) of no bytes = % x", got)
		}
	}
}

func TestSumsAreWhatDivisionLeaves(t *testing.T) {
	for _, s := range checksums() {
		for i := range 256 {
			b := []byte{byte(i)}
			if got, want := s.of(b), divided(s, b); got != want {
				t.Errorf("%s(% x) = %#x, not %#x", s.name, b, got, want)
			}
		}
		for size := range 80 {
			for _, b := range rows(size) {
				if got, want := s.of(b), divided(s, b); got != want {
					t.Errorf("%s(% x) = %#x, not %#x", s.name, b, got, want)
				}
			}
		}
		for _, b := range rows(api.MaxBundle + 5) {
			if got, want := s.of(b), divided(s, b); got != want {
				t.Errorf("%s of %d bytes = %#x, not %#x", s.name, len(b), got, want)
			}
		}
	}
}

func TestLongIsCastagnoli(t *testing.T) {
	table := crc32.MakeTable(crc32.Castagnoli)
	for _, size := range []int{0, 1, 2, 3, 4, 5, 63, 64, 65, api.MaxBundle - 1, api.MaxBundle, 1 << 20} {
		for _, b := range rows(size) {
			if got, want := Long(b), crc32.Checksum(b, table); got != want {
				t.Errorf("Long of %d bytes = %#08x, not %#08x", size, got, want)
			}
		}
	}
}

func TestBytes(t *testing.T) {
	for size := range 40 {
		for _, b := range rows(size) {
			short, long := Short(b), Long(b)
			two := []byte{byte(short >> 8), byte(short)}
			if got := Bytes(1, b); !bytes.Equal(got, two) {
				t.Errorf("Bytes(1, % x) = % x, not % x", b, got, two)
			}
			four := []byte{byte(long >> 24), byte(long >> 16), byte(long >> 8), byte(long)}
			if got := Bytes(2, b); !bytes.Equal(got, four) {
				t.Errorf("Bytes(2, % x) = % x, not % x", b, got, four)
			}
		}
	}
}

func TestBytesOfNoOtherKind(t *testing.T) {
	for _, kind := range []int{
		math.MinInt, math.MinInt + 1, math.MinInt + 2, -1 << 32, -256, -255, -254, -16, -3, -2, -1,
		0, 3, 4, 5, 8, 16, 32, 255, 256, 257, 258, 1<<16 + 1, 1<<32 + 1, 1<<32 + 2, math.MaxInt - 1, math.MaxInt,
	} {
		for _, b := range [][]byte{nil, {0}, []byte("123456789")} {
			if got := Bytes(kind, b); len(got) != 0 {
				t.Errorf("Bytes(%d, % x) = % x, not none", kind, b, got)
			}
		}
	}
}

// P2.2

func TestTurnedBitIsTold(t *testing.T) {
	for _, s := range checksums() {
		for _, size := range []int{1, 2, 3, 4, 5, 17, 64} {
			for _, b := range rows(size) {
				was := s.of(b)
				for at := range size * 8 {
					if s.of(turned(b, at, 1)) == was {
						t.Errorf("%s(% x): bit %d turned is not told", s.name, b, at)
					}
				}
			}
		}
		for _, b := range rows(api.MaxBundle) {
			was := s.of(b)
			for _, at := range []int{0, 1, 7, 8, 15, 16, 4095, 4096, 16384, 32759, 32760, 32766, 32767} {
				if s.of(turned(b, at, 1)) == was {
					t.Errorf("%s of %d bytes: bit %d turned is not told", s.name, len(b), at)
				}
			}
		}
	}
}

func TestTwoTurnedBitsAreTold(t *testing.T) {
	for _, s := range checksums() {
		for _, b := range rows(24) {
			was := s.of(b)
			for first := range len(b) * 8 {
				for second := range first {
					if s.of(turned(turned(b, first, 1), second, 1)) == was {
						t.Errorf("%s(% x): bits %d and %d turned are not told", s.name, b, second, first)
					}
				}
			}
		}
	}
}

// TestTwoTurnedBitsFarApart goes to 4095 bytes, no farther: as a sum of 16 bits comes round behind 32767 steps, it can't tell two bits that lie so far apart (the first and the last one of 4096 bytes).
func TestTwoTurnedBitsFarApart(t *testing.T) {
	b := row(api.MaxBundle-1, 5)
	last := len(b)*8 - 1
	for _, s := range checksums() {
		was := s.of(b)
		for apart := 1; apart <= last; apart += 61 {
			if s.of(turned(turned(b, 0, 1), apart, 1)) == was {
				t.Errorf("%s: the first bit and that %d behind it, turned, are not told", s.name, apart)
			}
		}
		for apart := last - 40; apart <= last; apart++ {
			if s.of(turned(turned(b, 0, 1), apart, 1)) == was {
				t.Errorf("%s: the first bit and that %d behind it, turned, are not told", s.name, apart)
			}
		}
	}
}

// TestTurnedBitWithOneOfTheSum: one bit of the bytes is turned, and one of their sum, so these must differ in more than one.
func TestTurnedBitWithOneOfTheSum(t *testing.T) {
	for _, s := range checksums() {
		for _, b := range rows(300) {
			was := s.of(b)
			for at := range len(b) * 8 {
				if bits.OnesCount64(was^s.of(turned(b, at, 1))) < 2 {
					t.Errorf("%s: bit %d and one of the sum, turned, are not told", s.name, at)
				}
			}
		}
	}
}

// places has where a burst of that many bits may stand: at the begin, from each bit of a byte on across bytes, at the end.
func places(size int, burst int) []int {
	last := size*8 - burst
	l := []int{0}
	for at := 1; at <= 8 && at < last; at++ {
		l = append(l, at)
	}
	return append(l, last)
}

// TestShortBurstIsTold asks each burst of at most 16 bits.
func TestShortBurstIsTold(t *testing.T) {
	b := row(5, 3)
	was := Short(b)
	for _, at := range places(len(b), 16) {
		for pattern := uint64(1); pattern < 1<<16; pattern++ {
			if Short(turned(b, at, pattern)) == was {
				t.Fatalf("the burst %#04x from bit %d on is not told", pattern, at)
			}
		}
	}
}

// TestLongBurstIsTold asks bursts of each length up to 32 bits: full ones, with their ends alone, and others.
func TestLongBurstIsTold(t *testing.T) {
	b := row(9, 4)
	was := Long(b)
	seed := uint64(9)
	for burst := 1; burst <= 32; burst++ {
		full, ends := uint64(1)<<burst-1, uint64(1)<<(burst-1)|1
		patterns := []uint64{full, ends}
		for range 300 {
			seed = seed*6364136223846793005 + 1442695040888963407
			patterns = append(patterns, seed>>32&full|ends)
		}
		for _, at := range places(len(b), burst) {
			for _, pattern := range patterns {
				if Long(turned(b, at, pattern)) == was {
					t.Fatalf("the burst %#08x from bit %d on is not told", pattern, at)
				}
			}
		}
	}
}

// TestNoBurstIsHidden covers each burst there is: what a burst changes of a sum is put together (exclusive or) of what its bits change, so none is hidden if none of these is made of the others.
func TestNoBurstIsHidden(t *testing.T) {
	for _, s := range checksums() {
		for _, b := range rows(12) {
			was := s.of(b)
			for at := range len(b)*8 - s.size + 1 {
				var steps [64]uint64
				for i := range s.size {
					change := was ^ s.of(turned(b, at+i, 1))
					for change != 0 && steps[bits.Len64(change)-1] != 0 {
						change ^= steps[bits.Len64(change)-1]
					}
					if change == 0 {
						t.Fatalf("%s(% x): a burst from bit %d on, up to bit %d, is not told", s.name, b, at, at+i)
					}
					steps[bits.Len64(change)-1] = change
				}
			}
		}
	}
}

// TestChangesArePutTogether: what TestNoBurstIsHidden leans on.
func TestChangesArePutTogether(t *testing.T) {
	for _, s := range checksums() {
		for size := range 20 {
			zero, a, b, both := make([]byte, size), row(size, 8), row(size, 9), make([]byte, size)
			for i := range size {
				both[i] = a[i] ^ b[i]
			}
			if s.of(a)^s.of(b) != s.of(both)^s.of(zero) {
				t.Errorf("%s: changes of % x and % x are not those of % x", s.name, a, b, both)
			}
		}
	}
}

// R3 and R4

func TestArgumentsStay(t *testing.T) {
	b := row(40, 6)
	was := bytes.Clone(b)
	part := b[:9]
	for range 2 {
		short, long, two, four := Short(part), Long(part), Bytes(1, part), Bytes(2, part)
		if !bytes.Equal(b, was) {
			t.Fatalf("% x became % x", was, b)
		}
		// What lies behind the end of the list is nobody's.
		alone := bytes.Clone(was[:9])
		if short != Short(alone) || long != Long(alone) {
			t.Error("sums hang on what lies behind the end")
		}
		if !bytes.Equal(two, Bytes(1, alone)) || !bytes.Equal(four, Bytes(2, alone)) {
			t.Error("Bytes hangs on what lies behind the end")
		}
	}
}

func TestAnswersAreNew(t *testing.T) {
	for _, s := range checksums() {
		b := []byte("123456789")
		want := bytes.Clone(Bytes(s.kind, b))
		first := Bytes(s.kind, b)
		for i := range first {
			first[i] ^= 0xff
		}
		if got := Bytes(s.kind, b); !bytes.Equal(got, want) || string(b) != "123456789" {
			t.Errorf("an answer changed another, or its argument: % x, %q", got, b)
		}
	}
}

// The chapter's example.
func TestExample(t *testing.T) {
	b := []byte("123456789")
	if got := Short(b); got != 0x906e {
		t.Errorf("Short = %#04x", got)
	}
	if got := Long(b); got != 0xe3069283 {
		t.Errorf("Long = %#08x", got)
	}
	if got := Bytes(1, b); !bytes.Equal(got, []byte{0x90, 0x6e}) {
		t.Errorf("Bytes(1) = % x", got)
	}
	if got := Bytes(2, b); !bytes.Equal(got, []byte{0xe3, 0x06, 0x92, 0x83}) {
		t.Errorf("Bytes(2) = % x", got)
	}
}
