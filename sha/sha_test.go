package sha

import (
	"bytes"
	"crypto/sha256"
	"encoding"
	"encoding/binary"
	"encoding/hex"
	"math"
	"math/big"
	"slices"
	"strings"
	"testing"
)

// unhex reads bytes as people write them, blanks between.
func unhex(t *testing.T, s string) []byte {
	t.Helper()
	b, err := hex.DecodeString(strings.ReplaceAll(s, " ", ""))
	if err != nil {
		t.Fatal(err)
	}
	return b
}

// row answers bytes that look like chance, of a rule.
func row(size int) []byte {
	b := make([]byte, size)
	n := uint32(size)
	for i := range b {
		n = n*1664525 + 1013904223
		b[i] = byte(n >> 24)
	}
	return b
}

// elsewhere reckons a digest by the library.
func elsewhere(b []byte) []byte {
	d := sha256.Sum256(b)
	return d[:]
}

// begun answers the state that digests begin with, as the document writes it.
func begun() []uint32 {
	return []uint32{0x6a09e667, 0xbb67ae85, 0x3c6ef372, 0xa54ff53a, 0x510e527f, 0x9b05688c, 0x1f83d9ab, 0x5be0cd19}
}

// wordsOf reads words, the highest byte of each first.
func wordsOf(b []byte) []uint32 {
	var l []uint32
	for ; len(b) >= 4; b = b[4:] {
		l = append(l, binary.BigEndian.Uint32(b))
	}
	return l
}

// bytesOf writes words, the highest byte of each first.
func bytesOf(l []uint32) []byte {
	var b []byte
	for _, x := range l {
		b = binary.BigEndian.AppendUint32(b, x)
	}
	return b
}

// beside reckons a state behind a block by the library, which lets itself be set to a state and tells it again.
func beside(t *testing.T, state []uint32, b []byte) []uint32 {
	t.Helper()
	const ahead = "sha\x03" // then the state, 64 bytes that wait, and how many bytes there were
	h := sha256.New()
	set := append(append([]byte(ahead), bytesOf(state)...), make([]byte, 64+8)...)
	if err := h.(encoding.BinaryUnmarshaler).UnmarshalBinary(set); err != nil {
		t.Fatal(err)
	}
	h.Write(b)
	told, err := h.(encoding.BinaryMarshaler).MarshalBinary()
	if err != nil {
		t.Fatal(err)
	}
	return wordsOf(told[len(ahead) : len(ahead)+32])
}

// states answers states of eight words: the first one of digests, all noughts, all ones, each bit alone, and others.
func states() [][]uint32 {
	l := [][]uint32{begun(), make([]uint32, 8), slices.Repeat([]uint32{math.MaxUint32}, 8)}
	for i := range 8 * 32 {
		one := make([]uint32, 8)
		one[i/32] = 1 << (i % 32)
		l = append(l, one)
	}
	for i := range 50 {
		l = append(l, wordsOf(row(32 + i)[:32]))
	}
	return l
}

// blocks answers blocks of 64 bytes: all noughts, all ones, each bit alone, and others.
func blocks() [][]byte {
	l := [][]byte{make([]byte, 64), bytes.Repeat([]byte{255}, 64)}
	for i := range 64 * 8 {
		one := make([]byte, 64)
		one[i/8] = 1 << (i % 8)
		l = append(l, one)
	}
	for i := range 50 {
		l = append(l, row(64 + i)[:64])
	}
	return l
}

// root answers the first 32 bits of the fractional part of a root of n: of power 2 the square root, of power 3 the cube root.
func root(n int64, power int64) uint32 {
	// The root's bits behind its point become whole ones, 32 of them, where n has so many noughts behind it for each time that the root is taken.
	grown := new(big.Int).Lsh(big.NewInt(n), uint(32*power))
	r := new(big.Int)
	for bit := 40; bit >= 0; bit-- {
		more := new(big.Int).SetBit(r, bit, 1)
		if new(big.Int).Exp(more, big.NewInt(power), nil).Cmp(grown) <= 0 {
			r = more
		}
	}
	return uint32(r.Uint64())
}

// primes answers the first primes.
func primes(count int) []int64 {
	var l []int64
	for n := int64(2); len(l) < count; n++ {
		if big.NewInt(n).ProbablyPrime(20) {
			l = append(l, n)
		}
	}
	return l
}

// P7.1

// pad writes what stands behind a text in another way: byte by byte, till the bytes of all are a multiple of 64.
func pad(n int) []byte {
	all := new(big.Int).Add(big.NewInt(int64(n)), big.NewInt(1+8))
	b := []byte{0x80}
	for new(big.Int).Mod(all, big.NewInt(64)).Sign() != 0 {
		b = append(b, 0)
		all.Add(all, big.NewInt(1))
	}
	bits := new(big.Int).Mul(big.NewInt(int64(n)), big.NewInt(8))
	for i := 7; i >= 0; i-- {
		b = append(b, byte(new(big.Int).Rsh(bits, uint(8*i)).Uint64()))
	}
	return b
}

func TestPad(t *testing.T) {
	for _, c := range []struct {
		n       int
		noughts int
		length  string
	}{
		{0, 55, "00 00 00 00 00 00 00 00"},
		{1, 54, "00 00 00 00 00 00 00 08"},
		{3, 52, "00 00 00 00 00 00 00 18"},
		{31, 24, "00 00 00 00 00 00 00 f8"},
		{32, 23, "00 00 00 00 00 00 01 00"},
		{54, 1, "00 00 00 00 00 00 01 b0"},
		{55, 0, "00 00 00 00 00 00 01 b8"},
		{56, 63, "00 00 00 00 00 00 01 c0"},
		{57, 62, "00 00 00 00 00 00 01 c8"},
		{63, 56, "00 00 00 00 00 00 01 f8"},
		{64, 55, "00 00 00 00 00 00 02 00"},
		{65, 54, "00 00 00 00 00 00 02 08"},
		{118, 1, "00 00 00 00 00 00 03 b0"},
		{119, 0, "00 00 00 00 00 00 03 b8"},
		{120, 63, "00 00 00 00 00 00 03 c0"},
		{127, 56, "00 00 00 00 00 00 03 f8"},
		{128, 55, "00 00 00 00 00 00 04 00"},
		{4096, 55, "00 00 00 00 00 00 80 00"},
		{1 << 24, 55, "00 00 00 00 08 00 00 00"},
		{1<<29 - 1, 56, "00 00 00 00 ff ff ff f8"},
		{1 << 29, 55, "00 00 00 01 00 00 00 00"},
		{1<<31 - 1, 56, "00 00 00 03 ff ff ff f8"},
		{1 << 32, 55, "00 00 00 08 00 00 00 00"},
		{0x0123456789abcdef, 8, "09 1a 2b 3c 4d 5e 6f 78"},
		{1<<61 - 9, 0, "ff ff ff ff ff ff ff b8"},
		{1<<61 - 8, 63, "ff ff ff ff ff ff ff c0"},
		{1<<61 - 1, 56, "ff ff ff ff ff ff ff f8"},
	} {
		want := append(append([]byte{0x80}, make([]byte, c.noughts)...), unhex(t, c.length)...)
		if got := Pad(c.n); !bytes.Equal(got, want) {
			t.Errorf("Pad(%d) = % x, not % x", c.n, got, want)
		}
	}
}

func TestPadOfLessThanNothing(t *testing.T) {
	for _, n := range []int{-1, -2, -8, -9, -55, -56, -63, -64, -65, -1 << 32, math.MinInt + 1, math.MinInt} {
		if got := Pad(n); len(got) != 0 {
			t.Errorf("Pad(%d) = % x, not nothing", n, got)
		}
	}
}

func TestPadOfEachLength(t *testing.T) {
	for n := range 1000 {
		if got, want := Pad(n), pad(n); !bytes.Equal(got, want) {
			t.Errorf("Pad(%d) = % x, not % x", n, got, want)
		}
	}
}

// TestPadOfGreatNumbers goes up to the greatest int. From 2^61 on 8 n has more than eight bytes: these are its lowest ones.
func TestPadOfGreatNumbers(t *testing.T) {
	for shift := 10; shift < 63; shift++ {
		for less := -65; less <= 65; less++ {
			n := 1<<shift + less
			if got, want := Pad(n), pad(n); !bytes.Equal(got, want) {
				t.Errorf("Pad(%d) = % x, not % x", n, got, want)
			}
		}
	}
	for less := range 200 {
		n := math.MaxInt - less
		if got, want := Pad(n), pad(n); !bytes.Equal(got, want) {
			t.Errorf("Pad(%d) = % x, not % x", n, got, want)
		}
	}
	if got, want := Pad(math.MaxInt), append(append([]byte{0x80}, make([]byte, 56)...), unhex(t, "ff ff ff ff ff ff ff f8")...); !bytes.Equal(got, want) {
		t.Errorf("Pad of the greatest int = % x, not % x", got, want)
	}
}

// P7.2

// TestBlock: states and blocks of FIPS 180-2's examples.
func TestBlock(t *testing.T) {
	long := "abcdbcdecdefdefgefghfghighijhijkijkljklmklmnlmnomnopnopq"
	for _, c := range []struct {
		state []uint32
		block []byte
		want  string
	}{
		{begun(), append([]byte("abc"), pad(3)...), "ba7816bf 8f01cfea 414140de 5dae2223 b00361a3 96177a9c b410ff61 f20015ad"},
		{begun(), pad(0), "e3b0c442 98fc1c14 9afbf4c8 996fb924 27ae41e4 649b934c a495991b 7852b855"},
		{begun(), append([]byte(long), pad(56)[:8]...), "85e655d6 417a1795 3363376a 624cde5c 76e09589 cac5f811 cc4b32c1 f20e533a"},
		{
			[]uint32{0x85e655d6, 0x417a1795, 0x3363376a, 0x624cde5c, 0x76e09589, 0xcac5f811, 0xcc4b32c1, 0xf20e533a}, pad(56)[8:],
			"248d6a61 d20638b8 e5c02693 0c3e6039 a33ce459 64ff2167 f6ecedd4 19db06c1",
		},
	} {
		if got, want := Block(c.state, c.block), wordsOf(unhex(t, c.want)); !slices.Equal(got, want) {
			t.Errorf("Block(%08x, % x) = %08x, not %08x", c.state, c.block, got, want)
		}
	}
}

func TestBlockOfManyStates(t *testing.T) {
	l := blocks()
	for i, state := range states() {
		for _, b := range [][]byte{l[0], l[1], l[i%len(l)], l[len(l)-1-i%50]} {
			if got, want := Block(state, b), beside(t, state, b); !slices.Equal(got, want) {
				t.Errorf("Block(%08x, % x) = %08x, not %08x", state, b, got, want)
			}
		}
	}
}

func TestBlockOfManyBlocks(t *testing.T) {
	l := states()
	for i, b := range blocks() {
		for _, state := range [][]uint32{l[0], l[1], l[2], l[i%len(l)], l[len(l)-1-i%50]} {
			if got, want := Block(state, b), beside(t, state, b); !slices.Equal(got, want) {
				t.Errorf("Block(%08x, % x) = %08x, not %08x", state, b, got, want)
			}
		}
	}
}

// TestBlockBehindBlock: a state goes on from step to step.
func TestBlockBehindBlock(t *testing.T) {
	state := begun()
	for i := range 2000 {
		b := row(64 + i)[:64]
		want := beside(t, state, b)
		if state = Block(state, b); !slices.Equal(state, want) {
			t.Fatalf("step %d: %08x, not %08x", i, state, want)
		}
	}
}

func TestBlockOfOthers(t *testing.T) {
	for _, words := range []int{0, 1, 4, 7, 8, 9, 15, 16, 64, 1000} {
		for _, size := range []int{0, 1, 32, 56, 63, 64, 65, 72, 127, 128, 1000} {
			state, b := wordsOf(row(4*words)), row(size)
			got := Block(state, b)
			if words == 8 && size == 64 {
				if want := beside(t, state, b); !slices.Equal(got, want) {
					t.Errorf("Block = %08x, not %08x", got, want)
				}
				continue
			}
			if len(got) != 0 {
				t.Errorf("Block of %d words and %d bytes = %08x, not nothing", words, size, got)
			}
		}
	}
	if got := Block(nil, make([]byte, 64)); len(got) != 0 {
		t.Errorf("Block of no state = %08x, not nothing", got)
	}
	if got := Block(begun(), nil); len(got) != 0 {
		t.Errorf("Block of no bytes = %08x, not nothing", got)
	}
	if got := Block(nil, nil); len(got) != 0 {
		t.Errorf("Block of nothing = %08x, not nothing", got)
	}
	// What room is behind a list's end is nobody's.
	if got := Block(wordsOf(row(40))[:7], row(64)); len(got) != 0 {
		t.Errorf("Block of seven words = %08x, not nothing", got)
	}
	if got := Block(begun(), row(100)[:63]); len(got) != 0 {
		t.Errorf("Block of 63 bytes = %08x, not nothing", got)
	}
}

// TestRoundWords reckons the words k of the primes.
func TestRoundWords(t *testing.T) {
	k := roundWords()
	for i, p := range primes(64) {
		if want := root(p, 3); k[i] != want {
			t.Errorf("k[%d] = %#08x, not %#08x", i, k[i], want)
		}
	}
	if k[0] != 0x428a2f98 || k[63] != 0xc67178f2 {
		t.Errorf("k goes from %#08x to %#08x", k[0], k[63])
	}
}

// P7.3

// TestFirstState reckons the state that digests begin with of the primes.
func TestFirstState(t *testing.T) {
	state := firstState()
	for i, p := range primes(8) {
		if want := root(p, 2); state[i] != want {
			t.Errorf("word %d = %#08x, not %#08x", i, state[i], want)
		}
	}
	if !slices.Equal(state[:], begun()) {
		t.Errorf("it begins with %08x", state)
	}
}

// TestSum: digests reckoned elsewhere, the examples of FIPS 180-2 among them.
func TestSum(t *testing.T) {
	for _, c := range []struct {
		text []byte
		want string
	}{
		{nil, "e3b0c44298fc1c149afbf4c8996fb92427ae41e4649b934ca495991b7852b855"},
		{[]byte("abc"), "ba7816bf8f01cfea414140de5dae2223b00361a396177a9cb410ff61f20015ad"},
		{[]byte("abcdbcdecdefdefgefghfghighijhijkijkljklmklmnlmnomnopnopq"), "248d6a61d20638b8e5c026930c3e6039a33ce45964ff2167f6ecedd419db06c1"},
		{[]byte("abcdefghbcdefghicdefghijdefghijkefghijklfghijklmghijklmnhijklmnoijklmnopjklmnopqklmnopqrlmnopqrsmnopqrstnopqrstu"), "cf5b16a778af8380036ce59e7b0492370b249b11e8f07a51afac45037afee9d1"},
		{[]byte("The quick brown fox jumps over the lazy dog"), "d7a8fbb307d7809469ca9abcb0082e4f8d5651e46d3cdb762d02d0bf37c9e592"},
		{bytes.Repeat([]byte("a"), 1000000), "cdc76e5c9914fb9281a1c7e284d73e67f1809a48a497200e046d39ccc7112cd0"},
		{row(1), "dabd3aff769f07eb2965401eb029974ebba3407afd02b26ddb564ea5f8efae72"},
		{row(55), "fbbd36c94cdeaa393ba2301164cdbc0cd22b2d73e63dfa2cf7c3ea0332a9290f"},
		{row(56), "d9a584f46d43d951ea0bd222ccdcf7e116ee5482058018f35b76107d5be0a4d1"},
		{row(57), "88877cfc57a93b2e75773cef85cec201bed54e6421d3d2750a3e9fe4134b1c71"},
		{row(63), "cbb647c388d0f31dd465dfd7a13f3fd4c48d128b1fff1781ef9af67e5ee6b881"},
		{row(64), "e4c43bac5d0736d173331ba9f4b2520ec4b822c34976a19ab24c5e3ea2e75541"},
		{row(65), "a77960926b5775f1d4db76b80b06bc7afeaa8d1cc8892b34eea7d168ab54ab98"},
		{row(119), "dba1654c6c1d2fba2a05d408c0133dec778102aaf6acb8c6a5c63747046695a4"},
		{row(120), "0948a2a962a919552388c790f3ff3e3a9a59b9d0cc2150f39d44000f041b819f"},
		{row(121), "72fef8e8b73bcd375e6a1e6f91ef2e563d1bab9bfb38215fdaab3a0d7f8b8b60"},
		{row(127), "c3a55802b1d5e74e3802178843f2e7b714eaa48806d4dd98838270cd592742f8"},
		{row(128), "a46949b549b016c00294f674f78eb6895957eefb837bb5becaa97f3fe24d919a"},
		{row(129), "0ac9354016ea228efa49af5f0e822cba5ad48a3e98fedc7fa0509d2aa5c535ca"},
		{row(183), "a41e59cf142b9bdbab06b0b591cab174b5bddf9a7128210ab759d5143ffe8a58"},
		{row(184), "43836d5d95634fc1342b29fdb05c2261cd4c7229d3959588f7767fd50edc27b8"},
		{row(1000), "f438db7fa7243024503ed9da533e7c3136d5ffa8c9cd321f8004b63c686ff2e9"},
		{row(4096), "5a81d433f6e3f10da62f08e5182a4e87fdd701734f84ef870ea9231b1cd2d7c8"},
	} {
		if got := Sum(c.text); !bytes.Equal(got, unhex(t, c.want)) {
			t.Errorf("Sum(%.100q) = %x, not %s", c.text, got, c.want)
		}
	}
}

func TestSumOfNothing(t *testing.T) {
	want := elsewhere(nil)
	for _, parts := range [][][]byte{
		nil, {}, {nil}, {{}}, {nil, nil}, {nil, {}, nil, {}}, {row(9)[:0]}, make([][]byte, 1000),
	} {
		if got := Sum(parts...); !bytes.Equal(got, want) {
			t.Errorf("Sum(%x) = %x, not %x", parts, got, want)
		}
	}
	if got := Sum(); !bytes.Equal(got, want) {
		t.Errorf("Sum() = %x, not %x", got, want)
	}
}

func TestSumOfEachLength(t *testing.T) {
	for size := range 700 {
		for _, b := range [][]byte{row(size), make([]byte, size), bytes.Repeat([]byte{255}, size)} {
			if got, want := Sum(b), elsewhere(b); !bytes.Equal(got, want) {
				t.Errorf("Sum(%x) = %x, not %x", b, got, want)
			}
		}
	}
}

func TestSumOfGreatTexts(t *testing.T) {
	for _, size := range []int{1<<16 - 9, 1 << 16, 1<<21 + 1, 1 << 24} {
		b := row(size)
		if got, want := Sum(b), elsewhere(b); !bytes.Equal(got, want) {
			t.Errorf("Sum of %d bytes = %x, not %x", size, got, want)
		}
	}
}

// TestSumOfAllNumbers: each byte there is.
func TestSumOfAllNumbers(t *testing.T) {
	for i := range 256 {
		b := []byte{byte(i)}
		if got, want := Sum(b), elsewhere(b); !bytes.Equal(got, want) {
			t.Errorf("Sum(%x) = %x, not %x", b, got, want)
		}
	}
}

// TestSumOfCutTexts cuts texts at each place, and at each two, empty parts between.
func TestSumOfCutTexts(t *testing.T) {
	for _, size := range []int{0, 1, 55, 56, 63, 64, 65, 119, 120, 121, 128, 200} {
		b := row(size)
		want := elsewhere(b)
		for first := range size + 1 {
			for _, parts := range [][][]byte{
				{b[:first], b[first:]},
				{nil, b[:first], nil, {}, b[first:], nil},
			} {
				if got := Sum(parts...); !bytes.Equal(got, want) {
					t.Errorf("of %d bytes, cut at %d: %x, not %x", size, first, got, want)
				}
			}
			for second := first; second <= size; second++ {
				if got := Sum(b[:first], b[first:second], b[second:]); !bytes.Equal(got, want) {
					t.Errorf("of %d bytes, cut at %d and %d: %x, not %x", size, first, second, got, want)
				}
			}
		}
	}
}

// TestSumOfManyParts cuts a text in parts of each length.
func TestSumOfManyParts(t *testing.T) {
	b := row(1000)
	want := elsewhere(b)
	for size := 1; size <= 200; size++ {
		if got := Sum(slices.Collect(slices.Chunk(b, size))...); !bytes.Equal(got, want) {
			t.Errorf("in parts of %d bytes: %x, not %x", size, got, want)
		}
	}
	b = row(1 << 18)
	if got, want := Sum(slices.Collect(slices.Chunk(b, 1))...), elsewhere(b); !bytes.Equal(got, want) {
		t.Errorf("in many parts: %x, not %x", got, want)
	}
}

// TestSumOfPartsInOrder: parts may share memory, be the same, and stand in any order.
func TestSumOfPartsInOrder(t *testing.T) {
	b := row(100)
	for _, parts := range [][][]byte{
		{b, b}, {b, b, b[:64], b[64:]}, {b[50:], b[:50]}, {b[1:], b[:99], b[10:20]}, {[]byte("b"), []byte("a")},
	} {
		if got, want := Sum(parts...), elsewhere(bytes.Join(parts, nil)); !bytes.Equal(got, want) {
			t.Errorf("Sum(%x) = %x, not %x", parts, got, want)
		}
	}
}

// TestSumIsBlocks: a digest is what Block makes of a text and its Pad.
func TestSumIsBlocks(t *testing.T) {
	for size := range 300 {
		b := row(size)
		state := begun()
		for block := range slices.Chunk(append(bytes.Clone(b), Pad(size)...), 64) {
			state = Block(state, block)
		}
		if got, want := Sum(b), bytesOf(state); !bytes.Equal(got, want) {
			t.Errorf("Sum(%x) = %x, not %x", b, got, want)
		}
	}
}

// R3, R4

// TestArgumentsStay: no call changes what it was given, nor what room is behind it.
func TestArgumentsStay(t *testing.T) {
	words, text := wordsOf(row(64)), row(400)
	wordsWere, textWas := slices.Clone(words), bytes.Clone(text)
	parts := [][]byte{text[:10], nil, text[10:74], text[74:80], text[80:300], text[7:7]}
	partsWere := slices.Clone(parts)
	Block(words[:8], text[:64])
	Block(words[:8], text[:63])
	Block(words[:7], text[:64])
	Sum(parts[:3]...)
	Sum(parts[:5]...)
	Sum(text[:0], text[:1], text[:64], text[:65])
	if !slices.Equal(words, wordsWere) {
		t.Errorf("the words %08x became %08x", wordsWere, words)
	}
	if !bytes.Equal(text, textWas) {
		t.Errorf("% x became % x", textWas, text)
	}
	for i := range parts {
		if len(parts[i]) != len(partsWere[i]) || cap(parts[i]) != cap(partsWere[i]) || len(parts[i]) > 0 && &parts[i][0] != &partsWere[i][0] {
			t.Errorf("part %d is another one", i)
		}
	}
}

// TestAnswersAreNew: what a caller does to an answer, or to what it handed in, changes no other answer.
func TestAnswersAreNew(t *testing.T) {
	b, state := row(64), begun()
	next, digest := beside(t, state, b), elsewhere(b)
	for range 3 {
		gotPad, gotState, gotDigest := Pad(3), Block(state, b), Sum(b)
		if !bytes.Equal(gotPad, pad(3)) || !slices.Equal(gotState, next) || !bytes.Equal(gotDigest, digest) {
			t.Fatalf("an answer changed another: % x, %08x, % x", gotPad, gotState, gotDigest)
		}
		clear(gotPad)
		clear(gotState)
		clear(gotDigest)
		_ = append(append(gotPad[:0], row(100)...), append(gotDigest[:0], row(100)...)...)
	}
	if !slices.Equal(state, begun()) || !bytes.Equal(b, row(64)) {
		t.Error("an answer is what was handed in")
	}
}

// TestAnswersStay: a later call changes no answer, nor does what becomes of what was handed in.
func TestAnswersStay(t *testing.T) {
	b, state := row(64), begun()
	next, digest := beside(t, state, b), elsewhere(b)
	gotPad, gotState, gotDigest := Pad(3), Block(state, b), Sum(b)
	clear(b)
	clear(state)
	Pad(4)
	Block(state, b)
	Block(gotState[:7], b)
	Sum(b, b)
	if !bytes.Equal(gotPad, pad(3)) || !slices.Equal(gotState, next) || !bytes.Equal(gotDigest, digest) {
		t.Errorf("answers changed: % x, %08x, % x", gotPad, gotState, gotDigest)
	}
	Block(gotState, gotDigest)
	Sum(gotDigest, gotPad)
	if !bytes.Equal(gotPad, pad(3)) || !slices.Equal(gotState, next) || !bytes.Equal(gotDigest, digest) {
		t.Errorf("answers changed as they were handed in: % x, %08x, % x", gotPad, gotState, gotDigest)
	}
}

// The chapter's example.
func TestExample(t *testing.T) {
	want := unhex(t, "ba7816bf 8f01cfea 414140de 5dae2223 b00361a3 96177a9c b410ff61 f20015ad")
	if got := Sum([]byte("abc")); !bytes.Equal(got, want) {
		t.Errorf("Sum(abc) = %x, not %x", got, want)
	}
}
