package cbor

import (
	"bytes"
	"encoding/hex"
	"errors"
	"math"
	"math/rand"
	"strings"
	"testing"

	"fairlead/api"
)

// unhex reads bytes as people write them, blanks between.
func unhex(t *testing.T, s string) []byte {
	t.Helper()
	b, err := hex.DecodeString(strings.ReplaceAll(s, " ", ""))
	if err != nil {
		t.Fatal(err)
	}
	return b
}

// same holds items against each other; nil and empty lists are the same.
func same(x, y api.Item) bool {
	if x.Kind != y.Kind || x.N != y.N || !bytes.Equal(x.Data, y.Data) || len(x.List) != len(y.List) {
		return false
	}
	for i := range x.List {
		if !same(x.List[i], y.List[i]) {
			return false
		}
	}
	return true
}

func zero(x api.Item) bool {
	return same(x, api.Item{})
}

// endlessOf answers an endless array, which no call of the package makes but Decode.
func endlessOf(l ...api.Item) api.Item {
	return api.Item{Kind: api.ItemEndless, List: l}
}

// nested answers an item that many arrays deep, every second of them endless if mixed.
func nested(depth int, inner api.Item, mixed bool) api.Item {
	for i := range depth {
		inner = api.Item{Kind: api.ItemArray, List: []api.Item{inner}}
		if mixed && i%2 == 0 {
			inner.Kind = api.ItemEndless
		}
	}
	return inner
}

// noughts answers that many Uint(0).
func noughts(n int) []api.Item {
	l := make([]api.Item, n)
	for i := range l {
		l[i] = Uint(0)
	}
	return l
}

// chance answers an item of a rule that looks like chance: at most that many arrays deep, all that it has within limits.
func chance(r *rand.Rand, depth int) api.Item {
	numbers := []uint64{0, 1, 23, 24, 255, 256, 65535, 65536, math.MaxUint32, math.MaxUint32 + 1, math.MaxUint64}
	kinds := 5
	if depth == 0 {
		kinds = 3
	}
	switch r.Intn(kinds) {
	case 0:
		return Uint(numbers[r.Intn(len(numbers))] ^ uint64(r.Intn(2)))
	case 1:
		b := make([]byte, r.Intn(30))
		r.Read(b)
		return Bytes(b)
	case 2:
		b := make([]byte, r.Intn(30))
		for i := range b {
			b[i] = byte(32 + r.Intn(95))
		}
		return Text(string(b))
	case 3:
		return Array(several(r, depth-1)...)
	}
	return endlessOf(several(r, depth-1)...)
}

func several(r *rand.Rand, depth int) []api.Item {
	l := make([]api.Item, r.Intn(5))
	for i := range l {
		l[i] = chance(r, depth)
	}
	return l
}

// P3.1

func TestHead(t *testing.T) {
	for _, c := range []struct {
		n    uint64
		want string // of major 0
	}{
		{0, "00"}, {1, "01"}, {10, "0a"}, {22, "16"}, {23, "17"},
		{24, "18 18"}, {25, "18 19"}, {100, "18 64"}, {254, "18 fe"}, {255, "18 ff"},
		{256, "19 01 00"}, {257, "19 01 01"}, {1000, "19 03 e8"}, {65534, "19 ff fe"}, {65535, "19 ff ff"},
		{65536, "1a 00 01 00 00"}, {1000000, "1a 00 0f 42 40"}, {1<<24 - 1, "1a 00 ff ff ff"}, {1 << 24, "1a 01 00 00 00"},
		{1<<32 - 1, "1a ff ff ff ff"},
		{1 << 32, "1b 00 00 00 01 00 00 00 00"}, {1<<32 + 1, "1b 00 00 00 01 00 00 00 01"},
		{1000000000000, "1b 00 00 00 e8 d4 a5 10 00"}, {1 << 62, "1b 40 00 00 00 00 00 00 00"},
		{1<<63 - 1, "1b 7f ff ff ff ff ff ff ff"}, {1 << 63, "1b 80 00 00 00 00 00 00 00"},
		{math.MaxUint64, "1b ff ff ff ff ff ff ff ff"},
	} {
		for major := range 8 {
			want := unhex(t, c.want)
			want[0] += byte(32 * major)
			if got := Head(major, c.n); !bytes.Equal(got, want) {
				t.Errorf("Head(%d, %d) = % x, not % x", major, c.n, got, want)
			}
		}
	}
}

func TestHeadOfNoMajor(t *testing.T) {
	for _, major := range []int{
		math.MinInt, math.MinInt + 1, -1 << 32, -256, -255, -9, -8, -7, -1,
		8, 9, 15, 16, 31, 32, 255, 256, 257, 264, 1 << 16, 1 << 32, 1<<32 + 1, math.MaxInt - 7, math.MaxInt,
	} {
		for _, n := range []uint64{0, 23, 24, 256, 65536, 1 << 32, math.MaxUint64} {
			if got := Head(major, n); len(got) != 0 {
				t.Errorf("Head(%d, %d) = % x, not nothing", major, n, got)
			}
		}
	}
}

func TestUint(t *testing.T) {
	for _, n := range []uint64{0, 1, 23, 24, 1 << 32, math.MaxUint64} {
		if got := Uint(n); !same(got, api.Item{Kind: api.ItemUint, N: n}) {
			t.Errorf("Uint(%d) = %v", n, got)
		}
	}
}

func TestBytes(t *testing.T) {
	for _, b := range [][]byte{nil, {}, {0}, {255}, {1, 2, 3}, make([]byte, api.MaxBundle)} {
		if got := Bytes(b); !same(got, api.Item{Kind: api.ItemBytes, Data: b}) {
			t.Errorf("Bytes(% x) = %v", b, got)
		}
	}
}

// TestText: what a text may have is asked when it is written, not when it is made.
func TestText(t *testing.T) {
	for _, s := range []string{"", "a", "dtn://a/b", " ~", "\x00", "\x1f\x7f", "\xff\xfe", "é", "a\nb"} {
		if got := Text(s); !same(got, api.Item{Kind: api.ItemText, Data: []byte(s)}) {
			t.Errorf("Text(%q) = %v", s, got)
		}
	}
}

func TestArray(t *testing.T) {
	for _, l := range [][]api.Item{
		nil,
		{},
		{Uint(1)},
		{Uint(1), Text("a"), Bytes([]byte{1}), Array(), endlessOf(Uint(2), Array(Uint(3)))},
		{{}, {Kind: 77, N: 1, Data: []byte{1}, List: []api.Item{{N: 2}}}},
		noughts(5000),
	} {
		if got := Array(l...); !same(got, api.Item{Kind: api.ItemArray, List: l}) {
			t.Errorf("Array(%v) = %v", l, got)
		}
	}
	if got := Array(); got.Kind != api.ItemArray || len(got.List) != 0 {
		t.Errorf("Array() = %v", got)
	}
}

// P3.2

func TestEncode(t *testing.T) {
	for _, c := range []struct {
		x    api.Item
		want string
	}{
		{api.Item{}, "00"},
		{Uint(0), "00"},
		{Uint(23), "17"},
		{Uint(24), "18 18"},
		{Uint(math.MaxUint64), "1b ff ff ff ff ff ff ff ff"},
		{Bytes(nil), "40"},
		{Bytes([]byte{0}), "41 00"},
		{Bytes([]byte{0, 31, 127, 255}), "44 00 1f 7f ff"},
		{Bytes(make([]byte, 23)), "57" + strings.Repeat("00", 23)},
		{Bytes(make([]byte, 24)), "58 18" + strings.Repeat("00", 24)},
		{Bytes(make([]byte, 255)), "58 ff" + strings.Repeat("00", 255)},
		{Bytes(make([]byte, 256)), "59 01 00" + strings.Repeat("00", 256)},
		{Bytes(make([]byte, 65536)), "5a 00 01 00 00" + strings.Repeat("00", 65536)},
		{Text(""), "60"},
		{Text("a"), "61 61"},
		{Text(" ~"), "62 20 7e"},
		{Text(strings.Repeat("x", 24)), "78 18" + strings.Repeat("78", 24)},
		{Array(), "80"},
		{Array(Uint(0)), "81 00"},
		{Array(Uint(1), Bytes([]byte{2}), Text("c"), Array(), endlessOf()), "85 01 41 02 61 63 80 9f ff"},
		{Array(Array(Uint(1)), Array(Uint(2), Uint(3))), "82 81 01 82 02 03"},
		{Array(noughts(23)...), "97" + strings.Repeat("00", 23)},
		{Array(noughts(24)...), "98 18" + strings.Repeat("00", 24)},
		{Array(noughts(256)...), "99 01 00" + strings.Repeat("00", 256)},
		{endlessOf(), "9f ff"},
		{endlessOf(Uint(1)), "9f 01 ff"},
		{endlessOf(noughts(256)...), "9f" + strings.Repeat("00", 256) + "ff"},
		{endlessOf(endlessOf(), Array(endlessOf(Uint(255)))), "9f 9f ff 81 9f 18 ff ff ff"},
		// Empty lists are none.
		{api.Item{Kind: api.ItemUint, N: 5, Data: []byte{}, List: []api.Item{}}, "05"},
		{api.Item{Kind: api.ItemBytes, Data: []byte{5}, List: []api.Item{}}, "41 05"},
		{api.Item{Kind: api.ItemText, Data: []byte{}, List: []api.Item{}}, "60"},
		{api.Item{Kind: api.ItemArray, Data: []byte{}, List: []api.Item{}}, "80"},
	} {
		got, errno := Encode(c.x)
		if want := unhex(t, c.want); errno != api.OK || !bytes.Equal(got, want) {
			t.Errorf("Encode(%v) = % x, %d, not % x", c.x, got, errno, want)
		}
	}
}

// wrong has items that are none: each alone is ErrArg.
func wrong() []api.Item {
	one := []byte{'a'}
	list := []api.Item{Uint(1)}
	l := []api.Item{
		{Kind: api.ItemUint, Data: one},
		{Kind: api.ItemUint, List: list},
		{Kind: api.ItemUint, N: 1, Data: one, List: list},
		{Kind: api.ItemBytes, N: 1},
		{Kind: api.ItemBytes, N: 1, Data: one},
		{Kind: api.ItemBytes, List: list},
		{Kind: api.ItemBytes, Data: one, List: list},
		{Kind: api.ItemText, N: 1},
		{Kind: api.ItemText, N: 1, Data: one},
		{Kind: api.ItemText, List: list},
		{Kind: api.ItemText, Data: one, List: list},
		{Kind: api.ItemArray, N: 1},
		{Kind: api.ItemArray, N: 1, List: list},
		{Kind: api.ItemArray, Data: one},
		{Kind: api.ItemArray, Data: one, List: list},
		{Kind: api.ItemEndless, N: 1},
		{Kind: api.ItemEndless, N: math.MaxUint64, List: list},
		{Kind: api.ItemEndless, Data: one},
		{Kind: api.ItemEndless, Data: one, List: list},
	}
	for _, kind := range []api.ItemKind{math.MinInt, -1 << 32, -256, -5, -4, -1, 1, 6, 7, 8, 32, 255, 256, 258, 260, 1 << 32, 1<<32 + 2, math.MaxInt} {
		l = append(l, api.Item{Kind: kind}, api.Item{Kind: kind, N: 1}, api.Item{Kind: kind, Data: one}, api.Item{Kind: kind, List: list})
	}
	return l
}

func TestEncodeRefuses(t *testing.T) {
	for _, x := range wrong() {
		for _, y := range []api.Item{
			x, Array(x), endlessOf(x), Array(Uint(1), x), Array(x, Uint(1)), endlessOf(Array(Text("a"), endlessOf(Bytes(nil), x))),
		} {
			if b, errno := Encode(y); errno != api.ErrArg || len(b) != 0 {
				t.Errorf("Encode(%v) = % x, %d: to be refused", y, b, errno)
			}
		}
	}
}

// TestEncodeTextBytes asks each byte, at each place of a text.
func TestEncodeTextBytes(t *testing.T) {
	for i := range 256 {
		for at := range 3 {
			b := []byte("abc")
			b[at] = byte(i)
			x := api.Item{Kind: api.ItemText, Data: b}
			got, errno := Encode(x)
			if 32 <= i && i <= 126 {
				if errno != api.OK || !bytes.Equal(got, append([]byte{0x63}, b...)) {
					t.Errorf("a text % x: % x, %d", b, got, errno)
				}
			} else if errno != api.ErrArg || len(got) != 0 {
				t.Errorf("a text % x: % x, %d: to be refused", b, got, errno)
			}
		}
	}
}

func TestEncodeDepth(t *testing.T) {
	for _, mixed := range []bool{false, true} {
		for depth := range 12 {
			for _, inner := range []api.Item{Uint(7), Text("a"), {Kind: api.ItemArray}, endlessOf()} {
				deepest := depth
				if inner.Kind == api.ItemArray || inner.Kind == api.ItemEndless {
					deepest++
				}
				b, errno := Encode(nested(depth, inner, mixed))
				if deepest <= 8 {
					if errno != api.OK || len(b) == 0 {
						t.Errorf("%d arrays: %d", deepest, errno)
					}
				} else if errno != api.ErrDeep || len(b) != 0 {
					t.Errorf("%d arrays: % x, %d: to be refused", deepest, b, errno)
				}
			}
		}
	}
	// What is deep stands behind, or ahead of, what is not.
	for _, x := range []api.Item{
		Array(Uint(1), nested(8, Uint(1), false)),
		Array(nested(8, Uint(1), false), Uint(1)),
		Array(Array(Array()), nested(8, Uint(1), true), Array()),
	} {
		if b, errno := Encode(x); errno != api.ErrDeep || len(b) != 0 {
			t.Errorf("nine arrays: % x, %d", b, errno)
		}
	}
	// Arrays beside one another are not in one another.
	var l []api.Item
	for range 20 {
		l = append(l, nested(7, Uint(1), false))
	}
	if _, errno := Encode(Array(l...)); errno != api.OK {
		t.Errorf("eight arrays, side by side: %d", errno)
	}
}

func TestEncodeParts(t *testing.T) {
	spread := func(n int) api.Item { // n items within, in arrays of arrays
		x := Array()
		for n > 1 {
			part := min(n-1, 100)
			x.List = append(x.List, Array(noughts(part-1)...))
			n -= part
		}
		return x
	}
	for n := 4090; n <= 4100; n++ {
		for _, x := range []api.Item{Array(noughts(n - 1)...), endlessOf(noughts(n - 1)...), spread(n), Array(spread(n - 1)), endlessOf(spread(n-3), endlessOf(Uint(1)))} {
			b, errno := Encode(x)
			if n <= 4096 && (errno != api.OK || len(b) < n) {
				t.Errorf("%d items: %d", n, errno)
			}
			if n > 4096 && (errno != api.ErrDeep || len(b) != 0) {
				t.Errorf("%d items: %d bytes, %d: to be refused", n, len(b), errno)
			}
		}
	}
	// A text's, or bytes', length counts as no part.
	if b, errno := Encode(Bytes(make([]byte, 10000))); errno != api.OK || len(b) != 10003 {
		t.Errorf("10000 bytes: %d, %d", len(b), errno)
	}
}

// TestEncodeArgAheadOfDeep: what is no item is told wherever it stands, too deep, behind what is too deep, or behind too many.
func TestEncodeArgAheadOfDeep(t *testing.T) {
	for _, x := range wrong() {
		for _, y := range []api.Item{
			nested(8, x, false),
			nested(9, x, true),
			nested(200, x, true),
			Array(nested(9, Uint(1), false), x),
			Array(x, nested(9, Uint(1), false)),
			Array(nested(20, Array(Uint(1), x), false), Uint(1)),
			Array(append(noughts(4096), x)...),
			Array(append(noughts(5000), endlessOf(Array(x)))...),
			Array(append([]api.Item{x}, noughts(5000)...)...),
		} {
			if b, errno := Encode(y); errno != api.ErrArg || len(b) != 0 {
				t.Errorf("%v within: % x, %d, not ErrArg", x, b, errno)
			}
		}
	}
}

// TestEncodeEndsHoweverDeep: calls as deep as these items would have no room.
func TestEncodeEndsHoweverDeep(t *testing.T) {
	const depth = 1 << 20
	for _, c := range []struct {
		inner api.Item
		want  api.Errno
	}{
		{Uint(1), api.ErrDeep},
		{api.Item{Kind: 1}, api.ErrArg},
	} {
		x := nested(depth, c.inner, true)
		if b, errno := Encode(x); errno != c.want || len(b) != 0 {
			t.Errorf("%d arrays: %d bytes, %d, not %d", depth, len(b), errno, c.want)
		}
		if b, errno := Encode(Array(x)); errno != c.want || len(b) != 0 {
			t.Errorf("%d arrays, by Array: %d bytes, %d, not %d", depth, len(b), errno, c.want)
		}
	}
}

// P3.3

func TestDecode(t *testing.T) {
	for _, c := range []struct {
		b    string
		want api.Item
	}{
		{"00", Uint(0)},
		{"17", Uint(23)},
		{"18 18", Uint(24)},
		{"18 ff", Uint(255)},
		{"19 01 00", Uint(256)},
		{"19 ff ff", Uint(65535)},
		{"1a 00 01 00 00", Uint(65536)},
		{"1a ff ff ff ff", Uint(1<<32 - 1)},
		{"1b 00 00 00 01 00 00 00 00", Uint(1 << 32)},
		{"1b ff ff ff ff ff ff ff ff", Uint(math.MaxUint64)},
		{"40", Bytes(nil)},
		{"43 00 7f ff", Bytes([]byte{0, 127, 255})},
		{"58 18" + strings.Repeat("9f", 24), Bytes(bytes.Repeat([]byte{0x9f}, 24))},
		{"59 01 00" + strings.Repeat("ff", 256), Bytes(bytes.Repeat([]byte{0xff}, 256))},
		{"5a 00 01 00 00" + strings.Repeat("01", 65536), Bytes(bytes.Repeat([]byte{1}, 65536))},
		{"60", Text("")},
		{"63 20 61 7e", Text(" a~")},
		{"78 18" + strings.Repeat("41", 24), Text(strings.Repeat("A", 24))},
		{"80", Array()},
		{"81 80", Array(Array())},
		{"83 01 61 61 41 ff", Array(Uint(1), Text("a"), Bytes([]byte{255}))},
		{"98 18" + strings.Repeat("00", 24), Array(noughts(24)...)},
		{"9f ff", endlessOf()},
		{"9f 01 ff", endlessOf(Uint(1))},
		{"9f 9f 9f ff ff ff", endlessOf(endlessOf(endlessOf()))},
		{"82 9f 01 ff 9f ff", Array(endlessOf(Uint(1)), endlessOf())},
		{"9f 81 9f ff 18 ff 41 ff ff", endlessOf(Array(endlessOf()), Uint(255), Bytes([]byte{255}))},
	} {
		b := unhex(t, c.b)
		x, n, errno := Decode(b)
		if errno != api.OK || n != len(b) || !same(x, c.want) {
			t.Errorf("Decode(% x) = %v, %d, %d, not %v", b, x, n, errno, c.want)
		}
		// What stands behind an item is not asked.
		for _, more := range [][]byte{{0}, {0xff}, {0x1c}, {0x9f}, b} {
			y, m, errno := Decode(append(bytes.Clone(b), more...))
			if errno != api.OK || m != len(b) || !same(y, c.want) {
				t.Errorf("Decode(% x, then % x) = %v, %d, %d, not %v", b, more, y, m, errno, c.want)
			}
		}
		// Wherever bytes end within an item they are short.
		for end := range b {
			if y, m, errno := Decode(b[:end]); errno != api.ErrShort || m != 0 || !zero(y) {
				t.Errorf("Decode(% x) = %v, %d, %d, not ErrShort", b[:end], y, m, errno)
			}
		}
	}
}

func TestDecodeFaults(t *testing.T) {
	nest := strings.Repeat("81", 8)
	long := strings.Repeat("00", 4095)
	for _, c := range []struct {
		b    string
		want api.Errno
	}{
		// Nothing, or heads that end.
		{"", api.ErrShort},
		{"18", api.ErrShort},
		{"19", api.ErrShort}, {"19 00", api.ErrShort}, {"19 ff", api.ErrShort},
		{"1a 00 00 00", api.ErrShort}, {"1b 00 00 00 00 00 00 00", api.ErrShort},
		{"58", api.ErrShort}, {"79 00", api.ErrShort}, {"9a 00 00 00", api.ErrShort}, {"98", api.ErrShort},
		// Heads that are longer than they need be.
		{"18 00", api.ErrCbor}, {"18 17", api.ErrCbor},
		{"19 00 00", api.ErrCbor}, {"19 00 17", api.ErrCbor}, {"19 00 ff", api.ErrCbor},
		{"1a 00 00 00 00", api.ErrCbor}, {"1a 00 00 ff ff", api.ErrCbor},
		{"1b 00 00 00 00 00 00 00 00", api.ErrCbor}, {"1b 00 00 00 00 ff ff ff ff", api.ErrCbor},
		{"58 00", api.ErrCbor}, {"58 05", api.ErrCbor}, {"58 17 00", api.ErrCbor}, {"59 00 ff", api.ErrCbor}, {"5a 00 00 ff ff", api.ErrCbor}, {"5b 00 00 00 00 00 00 00 01 05", api.ErrCbor},
		{"78 01 61", api.ErrCbor}, {"79 00 01 61", api.ErrCbor},
		{"98 00", api.ErrCbor}, {"98 01 00", api.ErrCbor}, {"99 00 18", api.ErrCbor}, {"9b 00 00 00 00 00 00 00 00", api.ErrCbor},
		// First bytes that are no head's.
		{"1c", api.ErrCbor}, {"1f", api.ErrCbor}, {"20", api.ErrCbor}, {"38", api.ErrCbor}, {"3f", api.ErrCbor},
		{"5c", api.ErrCbor}, {"5f 41 01 ff", api.ErrCbor}, {"7f 61 61 ff", api.ErrCbor}, {"7c", api.ErrCbor},
		{"9c", api.ErrCbor}, {"9d", api.ErrCbor}, {"9e", api.ErrCbor}, {"a0", api.ErrCbor}, {"b8", api.ErrCbor}, {"bf ff", api.ErrCbor},
		{"c0", api.ErrCbor}, {"d8", api.ErrCbor}, {"e0", api.ErrCbor}, {"f4", api.ErrCbor}, {"f6", api.ErrCbor}, {"f9", api.ErrCbor}, {"fb 00", api.ErrCbor}, {"fe", api.ErrCbor},
		// 0xff, where no endless array may end.
		{"ff", api.ErrCbor}, {"81 ff", api.ErrCbor}, {"82 00 ff", api.ErrCbor}, {"9f 81 ff ff", api.ErrCbor}, {"9f 82 01 ff", api.ErrCbor}, {"81 9f ff", api.OK}, {"82 9f ff ff", api.ErrCbor}, {"9f 61 ff ff", api.ErrCbor},
		// Bytes that end within an item.
		{"41", api.ErrShort}, {"42 00", api.ErrShort}, {"58 18 00", api.ErrShort}, {"61", api.ErrShort}, {"62 61", api.ErrShort},
		{"81", api.ErrShort}, {"82 00", api.ErrShort}, {"9f", api.ErrShort}, {"9f 01", api.ErrShort}, {"9f 9f ff", api.ErrShort}, {"81 42 00", api.ErrShort}, {"82 81 00", api.ErrShort},
		// Lengths that no bytes hold.
		{"5b ff ff ff ff ff ff ff ff", api.ErrShort}, {"5b ff ff ff ff ff ff ff ff 00 00", api.ErrShort},
		{"5b 80 00 00 00 00 00 00 00 00", api.ErrShort}, {"5b 7f ff ff ff ff ff ff ff 00", api.ErrShort}, {"5b 7f ff ff ff ff ff ff f7 00", api.ErrShort},
		{"5a ff ff ff ff 00", api.ErrShort}, {"7b ff ff ff ff ff ff ff ff 61", api.ErrShort}, {"7b 80 00 00 00 00 00 00 00", api.ErrShort},
		{"9b ff ff ff ff ff ff ff ff", api.ErrShort}, {"9b ff ff ff ff ff ff ff ff 00 00", api.ErrShort}, {"9b 80 00 00 00 00 00 00 00 00", api.ErrShort}, {"9a ff ff ff ff 9f ff", api.ErrShort},
		// Of an array each item is read first.
		{"9b ff ff ff ff ff ff ff ff 00 1c", api.ErrCbor}, {"9b ff ff ff ff ff ff ff ff 00 18 05", api.ErrCbor}, {"85 01 ff", api.ErrCbor}, {"85 01 61 1f", api.ErrCbor},
		{"9b ff ff ff ff ff ff ff ff" + long + "00", api.ErrDeep}, {"9b ff ff ff ff ff ff ff ff" + long, api.ErrShort},
		// A text's bytes, as far as there are some.
		{"61 1f", api.ErrCbor}, {"61 7f", api.ErrCbor}, {"61 00", api.ErrCbor}, {"61 ff", api.ErrCbor}, {"62 c3 a9", api.ErrCbor}, {"63 61 62 0a", api.ErrCbor},
		{"65 61 1f", api.ErrCbor}, {"65 61 62 63 80", api.ErrCbor}, {"7b ff ff ff ff ff ff ff ff 61 80", api.ErrCbor}, {"65 61 62 63 64", api.ErrShort},
		{"62 61 62 1f", api.OK}, {"60 1f", api.OK}, {"62 61 1f 00", api.ErrCbor},
		{"81 61 1f", api.ErrCbor}, {"82 65 1f 00", api.ErrCbor},
		// The first fault, from the front.
		{"82 18 05 1c", api.ErrCbor}, {"82 1c 18", api.ErrCbor}, {"83 00 42 00", api.ErrShort}, {"82 61 1f 42 00", api.ErrCbor}, {"9f 18 00", api.ErrCbor},
		// Arrays in arrays.
		{nest + "00", api.OK}, {nest + "80", api.ErrDeep}, {nest + "81 00", api.ErrDeep}, {nest + "9f ff", api.ErrDeep}, {nest + "9f", api.ErrDeep}, {nest + "81", api.ErrDeep}, {nest, api.ErrShort},
		{nest[2:] + "80", api.OK}, {nest[2:] + "9f ff", api.OK},
		{strings.Repeat("9f", 8) + "80", api.ErrDeep}, {strings.Repeat("9f", 8) + "9f", api.ErrDeep}, {strings.Repeat("9f", 8) + strings.Repeat("ff", 8), api.OK}, {strings.Repeat("9f", 8), api.ErrShort},
		{strings.Repeat("9f", 8) + "ff 80" + strings.Repeat("ff", 7), api.OK}, {"82" + nest[2:] + "00" + nest[2:] + "00", api.OK}, {"82" + nest[2:] + "00" + nest + "00", api.ErrDeep},
		// What is too deep is told ahead of what else is wrong there, if its first byte is an array's.
		{nest + "98 00", api.ErrDeep}, {nest + "98", api.ErrDeep}, {nest + "99", api.ErrDeep}, {nest + "9b 00", api.ErrDeep}, {nest + "9b", api.ErrDeep},
		{nest + "9c", api.ErrCbor}, {nest + "9d", api.ErrCbor}, {nest + "9e", api.ErrCbor}, {nest + "a0", api.ErrCbor}, {nest + "ff", api.ErrCbor}, {nest + "7f", api.ErrCbor}, {nest + "18 00", api.ErrCbor},
		// What is wrong ahead of it is told first.
		{nest[2:] + "98 01 80", api.ErrCbor}, {nest[2:] + "82 1c 80", api.ErrCbor}, {nest[2:] + "82 61 1f 80", api.ErrCbor},
	} {
		b := unhex(t, c.b)
		x, n, errno := Decode(b)
		if errno != c.want {
			t.Errorf("Decode(% x): %d, not %d", b, errno, c.want)
		}
		if errno != api.OK && (n != 0 || !zero(x)) {
			t.Errorf("Decode(% x) = %v, %d beside an error", b, x, n)
		}
	}
}

func TestDecodeParts(t *testing.T) {
	long := strings.Repeat("00", 4094) // with the array one item less than may be
	for _, c := range []struct {
		b    string
		want api.Errno
	}{
		{"99 0f ff" + long + "00", api.OK},
		{"99 0f ff" + long + "80", api.OK},
		{"99 0f ff" + long + "9f ff", api.OK},
		{"99 0f ff" + long + "1c", api.ErrCbor},
		{"99 0f ff" + long, api.ErrShort},
		{"99 10 00" + long + "00 00", api.ErrDeep},
		{"99 10 00" + long + "00", api.ErrShort},
		{"99 ff ff" + long + "00 00", api.ErrDeep},
		{"9f" + long + "00 ff", api.OK},
		{"9f" + long + "ff", api.OK},
		{"9f" + long + "00 00 ff", api.ErrDeep},
		{"9f" + long + "00", api.ErrShort},
		{"9f" + long + "81 ff", api.ErrDeep}, // where an item must stand, and none may
		{"9f" + long + "9f ff ff", api.OK},
		{"9f" + long + "9f 00 ff ff", api.ErrDeep},
		{"99 0f ff" + long + "81 00", api.ErrDeep},
		{"99 0f ff" + long + "81", api.ErrShort},
		// One item too many is told ahead of what else is wrong there.
		{"9f" + long + "00 1c", api.ErrDeep},
		{"9f" + long + "00 18", api.ErrDeep},
		{"9f" + long + "00 18 00", api.ErrDeep},
		{"9f" + long + "00 61 1f", api.ErrDeep},
		{"9f" + long + "00 42", api.ErrDeep},
		{"9f" + long + "00 80", api.ErrDeep},
		{"9f" + long + "00 9c", api.ErrDeep},
		{"99 10 00" + long + "00 ff", api.ErrDeep},
		{"99 10 00" + long + "00 20", api.ErrDeep},
		// What is wrong ahead of it is told first.
		{"9f" + long + "18 00 00", api.ErrCbor},
		{"9f 1c" + long + "00 00", api.ErrCbor},
		// A text's, or bytes', length counts as no part.
		{"59 20 00" + strings.Repeat("00", 8192), api.OK},
		{"79 20 00" + strings.Repeat("61", 8192), api.OK},
		// What stands behind the item doesn't count.
		{"80" + long + long, api.OK},
	} {
		b := unhex(t, c.b)
		x, n, errno := Decode(b)
		if errno != c.want {
			t.Errorf("Decode(% x .. % x): %d, not %d", b[:3], b[len(b)-3:], errno, c.want)
		}
		if errno != api.OK && (n != 0 || !zero(x)) {
			t.Errorf("Decode(% x ..) = %v, %d beside an error", b[:3], x, n)
		}
	}
}

// TestDecodeTextBytes asks each byte, at each place of a text.
func TestDecodeTextBytes(t *testing.T) {
	for i := range 256 {
		for at := range 3 {
			b := []byte("\x63abc")
			b[1+at] = byte(i)
			x, n, errno := Decode(b)
			if 32 <= i && i <= 126 {
				if errno != api.OK || n != 4 || !same(x, api.Item{Kind: api.ItemText, Data: b[1:]}) {
					t.Errorf("Decode(% x) = %v, %d, %d", b, x, n, errno)
				}
			} else if errno != api.ErrCbor || n != 0 || !zero(x) {
				t.Errorf("Decode(% x) = %v, %d, %d: to be refused", b, x, n, errno)
			}
		}
	}
}

func TestDecodeHeads(t *testing.T) {
	for _, n := range []uint64{
		0, 1, 22, 23, 24, 25, 254, 255, 256, 257, 65534, 65535, 65536, 65537,
		1<<32 - 2, 1<<32 - 1, 1 << 32, 1<<32 + 1, 1 << 62, math.MaxInt64, math.MaxInt64 + 1, math.MaxUint64 - 1, math.MaxUint64,
	} {
		for i, size := range []int{1, 2, 4, 8} {
			if size < 8 && n>>(8*size) != 0 {
				continue
			}
			b := []byte{byte(0x18 + i)}
			for k := size - 1; k >= 0; k-- {
				b = append(b, byte(n>>(8*k)))
			}
			least := n >= 24 && size == 1 || size > 1 && n>>(4*size) != 0
			x, m, errno := Decode(b)
			if least && (errno != api.OK || m != len(b) || !same(x, Uint(n))) {
				t.Errorf("Decode(% x) = %v, %d, %d, not %d", b, x, m, errno, n)
			}
			if !least && (errno != api.ErrCbor || m != 0 || !zero(x)) {
				t.Errorf("Decode(% x) = %v, %d, %d, not ErrCbor", b, x, m, errno)
			}
		}
	}
}

// TestDecodeAsTheModel asks all bytes up to three, and longer ones of those bytes that mean most.
func TestDecodeAsTheModel(t *testing.T) {
	ask := func(b []byte) {
		x, n, errno := Decode(b)
		y, m, want := model(b)
		if errno != want || n != m || !same(x, y) {
			t.Fatalf("Decode(% x) = %v, %d, %d, not %v, %d, %d", b, x, n, errno, y, m, want)
		}
	}
	ask(nil)
	ask([]byte{})
	for i := range 256 {
		ask([]byte{byte(i)})
		for k := range 256 {
			ask([]byte{byte(i), byte(k)})
			for _, c := range []byte{0, 1, 0x17, 0x18, 0x1f, 0x20, 0x41, 0x61, 0x7e, 0x7f, 0x80, 0x81, 0x9c, 0x9f, 0xa0, 0xfe, 0xff} {
				ask([]byte{byte(i), byte(k), c})
			}
		}
	}
	most := []byte{0x00, 0x18, 0x19, 0x1c, 0x41, 0x62, 0x7f, 0x80, 0x82, 0x98, 0x9f, 0xff}
	for i := range 12 * 12 * 12 * 12 * 12 {
		var b []byte
		for n := i; len(b) < 5; n /= 12 {
			b = append(b, most[n%12])
		}
		ask(b)
	}
}

// TestDecodeOfTurnedBytesAsTheModel takes items, and turns, cuts and puts bytes.
func TestDecodeOfTurnedBytesAsTheModel(t *testing.T) {
	r := rand.New(rand.NewSource(3))
	for range 60000 {
		b, _ := Encode(chance(r, 8))
		for range r.Intn(4) {
			at := r.Intn(len(b))
			switch r.Intn(4) {
			case 0:
				b[at] ^= 1 << r.Intn(8)
			case 1:
				b[at] = []byte{0x18, 0x19, 0x80, 0x81, 0x9f, 0xff, 0x98}[r.Intn(7)]
			case 2:
				b = b[:at+1]
			case 3:
				b = append(b[:at+1:at+1], b[at:]...)
			}
		}
		x, n, errno := Decode(b)
		y, m, want := model(b)
		if errno != want || n != m || !same(x, y) {
			t.Fatalf("Decode(% x) = %v, %d, %d, not %v, %d, %d", b, x, n, errno, y, m, want)
		}
	}
}

// model reads an item in another way than Decode: one loop over the bytes, with a row of the arrays that are open.
func model(b []byte) (api.Item, int, api.Errno) {
	type open struct {
		x    api.Item
		left uint64
	}
	var row []open
	at, parts := 0, 0
	for {
		var done api.Item
		switch {
		case at == len(b):
			return api.Item{}, 0, api.ErrShort
		case b[at] == 0xff && len(row) > 0 && row[len(row)-1].x.Kind == api.ItemEndless:
			done = row[len(row)-1].x
			row = row[:len(row)-1]
			at++
		default:
			if parts++; parts > 4096 {
				return api.Item{}, 0, api.ErrDeep
			}
			c := b[at]
			if (0x80 <= c && c <= 0x9b || c == 0x9f) && len(row) == 8 {
				return api.Item{}, 0, api.ErrDeep
			}
			if c == 0x9f {
				row = append(row, open{x: api.Item{Kind: api.ItemEndless}})
				at++
				continue
			}
			major, low := c/32, c%32
			if major != 0 && major != 2 && major != 3 && major != 4 || low > 27 {
				return api.Item{}, 0, api.ErrCbor
			}
			at++
			n := uint64(low)
			if low >= 24 {
				size := []int{1, 2, 4, 8}[low-24]
				least := []uint64{24, 256, 65536, 1 << 32}[low-24]
				if at+size > len(b) {
					return api.Item{}, 0, api.ErrShort
				}
				n = 0
				for range size {
					n = n*256 + uint64(b[at])
					at++
				}
				if n < least {
					return api.Item{}, 0, api.ErrCbor
				}
			}
			done = api.Item{Kind: api.ItemKind(major)}
			switch major {
			case 0:
				done.N = n
			case 4:
				if n > 0 {
					row = append(row, open{done, n})
					continue
				}
			default:
				for ; n > 0; n-- {
					if at == len(b) {
						return api.Item{}, 0, api.ErrShort
					}
					if major == 3 && (b[at] < ' ' || b[at] > '~') {
						return api.Item{}, 0, api.ErrCbor
					}
					done.Data = append(done.Data, b[at])
					at++
				}
			}
		}
		for {
			if len(row) == 0 {
				return done, at, api.OK
			}
			top := &row[len(row)-1]
			top.x.List = append(top.x.List, done)
			if top.x.Kind == api.ItemEndless {
				break
			}
			if top.left--; top.left > 0 {
				break
			}
			done = top.x
			row = row[:len(row)-1]
		}
	}
}

// P3.4

func TestDecodeOfEncode(t *testing.T) {
	r := rand.New(rand.NewSource(4))
	items := []api.Item{
		{}, Bytes(nil), Text(""), Array(), endlessOf(),
		nested(8, Uint(1), false), nested(8, Text("a"), true), nested(7, Array(), true),
		Array(noughts(4095)...), endlessOf(noughts(4095)...),
		Bytes(make([]byte, 70000)), Text(strings.Repeat("~", 70000)),
	}
	for range 20000 {
		items = append(items, chance(r, 8))
	}
	for _, x := range items {
		b, errno := Encode(x)
		if errno != api.OK {
			t.Fatalf("Encode(%v): %d", x, errno)
		}
		y, n, errno := Decode(b)
		if errno != api.OK || n != len(b) || !same(x, y) {
			t.Fatalf("Decode of Encode(%v) = %v, %d of %d bytes, %d", x, y, n, len(b), errno)
		}
	}
}

func TestWhatIsReadIsWrittenAsItWas(t *testing.T) {
	read := 0
	ask := func(b []byte) {
		x, n, errno := Decode(b)
		if errno != api.OK {
			return
		}
		read++
		if n < 1 || n > len(b) {
			t.Fatalf("Decode(% x): %d bytes", b, n)
		}
		if got, errno := Encode(x); errno != api.OK || !bytes.Equal(got, b[:n]) {
			t.Fatalf("what was read of % x is written as % x, %d", b[:n], got, errno)
		}
	}
	for i := range 1 << 16 {
		ask([]byte{byte(i >> 8), byte(i)})
		ask([]byte{0x82, byte(i >> 8), byte(i), 0xff})
		ask([]byte{0x9f, byte(i >> 8), byte(i), 0x00, 0xff})
	}
	r := rand.New(rand.NewSource(5))
	for range 30000 {
		b, _ := Encode(chance(r, 8))
		ask(b)
		b[r.Intn(len(b))] ^= 1 << r.Intn(8)
		ask(b)
	}
	if read < 60000 {
		t.Errorf("only %d were read", read)
	}
}

// R3 and R4

func TestArgumentsStay(t *testing.T) {
	b := unhex(t, "9f 41 05 61 61 82 01 42 07 08 ff 00 00")
	was := bytes.Clone(b)
	x, n, errno := Decode(b)
	if errno != api.OK || n != 11 {
		t.Fatal(n, errno)
	}
	if !bytes.Equal(b, was) {
		t.Errorf("Decode changed its argument: % x", b)
	}
	y := clone([]api.Item{x})[0]
	Encode(x)
	Encode(Array(x, api.Item{Kind: 1}))
	if !same(x, y) {
		t.Errorf("Encode changed its argument: %v", x)
	}
}

// scribble changes all that an item holds, and what may be behind the ends of its lists.
func scribble(x *api.Item) {
	x.Data = append(x.Data, 0xee)
	for i := range x.Data {
		x.Data[i] ^= 0x55
	}
	for i := range x.List {
		scribble(&x.List[i])
	}
	x.List = append(x.List, api.Item{N: 99})
	for i := range x.List {
		x.List[i].Kind += 40
	}
}

func TestAnswersAreNew(t *testing.T) {
	b := unhex(t, "9f 41 05 61 61 82 01 42 07 08 80 40 60 ff 11 22 33")
	was := bytes.Clone(b)
	x, _, _ := Decode(b)
	kept, _, _ := Decode(b)
	scribble(&x)
	if !bytes.Equal(b, was) {
		t.Errorf("an item that was read changed its bytes: % x", b)
	}
	again, _, _ := Decode(b)
	for i := range b {
		b[i] ^= 0xff
	}
	if !same(again, kept) {
		t.Errorf("what was read hangs on what was handed in: %v, not %v", again, kept)
	}
	first, _ := Encode(kept)
	for i := range first {
		first[i] = 0
	}
	if second, errno := Encode(kept); errno != api.OK || !bytes.Equal(second, was[:14]) {
		t.Errorf("an answer changed another: % x", second)
	}
	if h := Head(0, 300); len(h) == 3 {
		h[1] = 9
	}
	if h := Head(0, 300); !bytes.Equal(h, []byte{0x19, 1, 44}) {
		t.Errorf("Head(0, 300) = % x", h)
	}
}

// TestBytesAreCut: whoever appends to bytes that were taken does not write into those behind them.
func TestBytesAreCut(t *testing.T) {
	r := &reader{b: []byte{1, 2, 3, 4}}
	cut, err := r.take(2)
	if err != nil || !bytes.Equal(cut, []byte{1, 2}) || r.at != 2 {
		t.Fatal(cut, err, r.at)
	}
	if cut = append(cut, 9); cut[2] != 9 || r.b[2] != 3 {
		t.Errorf("an append went into % x", r.b)
	}
	if cut, err = r.take(3); numberOf(err) != api.ErrShort || len(cut) != 0 || r.at != 2 {
		t.Error(cut, err, r.at)
	}
}

func TestMadeItemsAreNew(t *testing.T) {
	data := []byte{1, 2, 3}
	x := Bytes(data[:2])
	scribble(&x)
	if !bytes.Equal(data, []byte{1, 2, 3}) {
		t.Errorf("Bytes shares its argument: % x", data)
	}
	y := Bytes(data)
	data[0] = 9
	if !same(y, api.Item{Kind: api.ItemBytes, Data: []byte{1, 2, 3}}) {
		t.Errorf("Bytes shares its argument: %v", y)
	}
	fresh := func() []api.Item {
		return []api.Item{Uint(1), Bytes([]byte{1}), Text("a"), Array(Uint(1), endlessOf(Bytes([]byte{2}))), Array(), {Kind: 9, Data: []byte{3}, List: []api.Item{Text("b")}}}
	}
	l := fresh()
	z := Array(l[:5]...)
	scribble(&z)
	if !same(Array(l...), Array(fresh()...)) {
		t.Errorf("Array shares its arguments: %v", l)
	}
	z = Array(l...)
	for i := range l {
		scribble(&l[i])
		l[i].N = 5
	}
	if !same(z, api.Item{Kind: api.ItemArray, List: fresh()}) {
		t.Errorf("Array shares its arguments: %v", z)
	}
	// One list handed in twice is two lists of the answer.
	one := Bytes([]byte{7})
	z = Array(one, one, Array(one))
	z.List[0].Data[0] = 8
	if z.List[1].Data[0] != 7 || z.List[2].List[0].Data[0] != 7 {
		t.Errorf("lists of an answer share their memory: %v", z)
	}
}

// What is wrong is an error of a type of its own.
func TestFaultIsFound(t *testing.T) {
	r := &reader{b: []byte{0x82, 0x00}}
	_, err := r.item()
	var f fault
	if !errors.As(err, &f) || f.number != api.ErrShort || f.Error() != "cbor: error 30" {
		t.Errorf("of bytes that end: %v", err)
	}
	if err := check(api.Item{Kind: 1}); !errors.As(err, &f) || f.number != api.ErrArg {
		t.Errorf("of no item: %v", err)
	}
	if numberOf(nil) != api.OK {
		t.Error("of nothing wrong")
	}
}

// The chapter's examples.
func TestExamples(t *testing.T) {
	b, errno := Encode(Array(Uint(1), Text("a")))
	if errno != api.OK || !bytes.Equal(b, []byte{0x82, 0x01, 0x61, 0x61}) {
		t.Errorf("an array of 1 and a: % x, %d", b, errno)
	}
	if x, n, errno := Decode([]byte{0x18, 0x17}); errno != api.ErrCbor || n != 0 || !zero(x) {
		t.Errorf("18 17: %v, %d, %d", x, n, errno)
	}
	x, n, errno := Decode([]byte{0x9f, 0x01, 0xff})
	if errno != api.OK || n != 3 || !same(x, api.Item{Kind: api.ItemEndless, List: []api.Item{Uint(1)}}) {
		t.Errorf("9f 01 ff: %v, %d, %d", x, n, errno)
	}
}
