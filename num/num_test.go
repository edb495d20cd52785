package num

import (
	"bytes"
	"encoding/hex"
	"math"
	"strconv"
	"testing"

	"fairlead/api"
)

const most = api.MaxCount

// counters has numbers at and beside each edge of a counter, and of an int.
func counters() []int {
	return []int{
		math.MinInt, math.MinInt + 1, -most - 1, -most, -2, -1,
		0, 1, 2, 3, 5, 255, 1 << 32, most / 2, most/2 + 1,
		most - 2, most - 1, most, most + 1, math.MaxInt - 1, math.MaxInt,
	}
}

// numbers has numbers at and beside each power of two, and ones with a byte of its own in each place.
func numbers() []uint64 {
	l := []uint64{0x0102030405060708, 0xf0e1d2c3b4a59687, 0xff00ff00ff00ff00, 258}
	for i := range 64 {
		x := uint64(1) << i
		l = append(l, x-1, x, x+1)
	}
	return append(l, math.MaxUint64)
}

// P1.1

func TestSum(t *testing.T) {
	for _, c := range []struct{ a, b, want int }{
		{0, 0, 0},
		{3, 5, 8},
		{5, 3, 8},
		{0, 7, 7},
		{-1, 5, 5},
		{5, -1, 5},
		{-5, 3, 3},
		{-3, -4, 0},
		{math.MinInt, math.MinInt, 0},
		{math.MinInt, math.MaxInt, most},
		{most, 0, most},
		{0, most, most},
		{most - 2, 1, most - 1},
		{most - 1, 1, most},
		{most - 1, 2, most},
		{1, most, most},
		{most / 2, most / 2, most},
		{most / 2, most/2 - 1, most - 1},
		{most / 2, most/2 + 1, most},
		{most, 5, most},
		{most, most, most},
		{most + 1, 0, most},
		{0, most + 1, most},
		{most + 1, -1, most},
		{math.MaxInt, math.MaxInt, most},
		{math.MaxInt, 1, most},
	} {
		if got := Sum(c.a, c.b); got != c.want {
			t.Errorf("Sum(%d, %d) = %d, not %d", c.a, c.b, got, c.want)
		}
	}
}

func TestLess(t *testing.T) {
	for _, c := range []struct{ a, b, want int }{
		{0, 0, 0},
		{5, 3, 2},
		{3, 5, 0},
		{5, 5, 0},
		{5, 0, 5},
		{0, 5, 0},
		{-1, 5, 0},
		{5, -3, 5},
		{-3, -5, 0},
		{most, 0, most},
		{most, 1, most - 1},
		{most, most, 0},
		{most, most - 1, 1},
		{most - 1, most, 0},
		{most + 5, 0, most},
		{most + 5, 3, most - 3},
		{most + 5, most, 0},
		{most, most + 5, 0},
		{most - 1, math.MaxInt, 0},
		{math.MaxInt, math.MaxInt, 0},
		{math.MaxInt, math.MinInt, most},
		{math.MinInt, math.MaxInt, 0},
		{math.MinInt, math.MinInt, 0},
		{0, math.MinInt, 0},
	} {
		if got := Less(c.a, c.b); got != c.want {
			t.Errorf("Less(%d, %d) = %d, not %d", c.a, c.b, got, c.want)
		}
	}
}

// P1.2

func TestPut(t *testing.T) {
	const x = 0x0102030405060708
	for _, c := range []struct {
		x    uint64
		size int
		want []byte
	}{
		{x, math.MinInt, nil},
		{x, -1, nil},
		{x, 0, nil},
		{x, 1, []byte{8}},
		{x, 2, []byte{7, 8}},
		{x, 3, []byte{6, 7, 8}},
		{x, 4, []byte{5, 6, 7, 8}},
		{x, 5, []byte{4, 5, 6, 7, 8}},
		{x, 6, []byte{3, 4, 5, 6, 7, 8}},
		{x, 7, []byte{2, 3, 4, 5, 6, 7, 8}},
		{x, 8, []byte{1, 2, 3, 4, 5, 6, 7, 8}},
		{x, 9, []byte{1, 2, 3, 4, 5, 6, 7, 8}},
		{x, 64, []byte{1, 2, 3, 4, 5, 6, 7, 8}},
		{x, math.MaxInt, []byte{1, 2, 3, 4, 5, 6, 7, 8}},
		{0, 3, []byte{0, 0, 0}},
		{258, 1, []byte{2}},
		{258, 8, []byte{0, 0, 0, 0, 0, 0, 1, 2}},
		{math.MaxUint64, 8, []byte{255, 255, 255, 255, 255, 255, 255, 255}},
	} {
		if got := Put(c.x, c.size); !bytes.Equal(got, c.want) {
			t.Errorf("Put(%#x, %d) = % x, not % x", c.x, c.size, got, c.want)
		}
	}
}

func TestGet(t *testing.T) {
	for _, c := range []struct {
		b    []byte
		want uint64
	}{
		{nil, 0},
		{[]byte{}, 0},
		{[]byte{0}, 0},
		{[]byte{255}, 255},
		{[]byte{1, 2}, 258},
		{[]byte{0, 1, 2}, 258},
		{[]byte{1, 2, 3, 4, 5, 6, 7}, 0x01020304050607},
		{[]byte{1, 2, 3, 4, 5, 6, 7, 8}, 0x0102030405060708},
		{[]byte{255, 254, 253, 252, 251, 250, 249, 248}, 0xfffefdfcfbfaf9f8},
		{[]byte{9, 1, 2, 3, 4, 5, 6, 7, 8}, 0x0102030405060708},
		{[]byte{9, 9, 9, 9, 9, 9, 9, 9, 0, 0, 0, 0, 0, 0, 0, 1}, 1},
		{append(make([]byte, 1000), 7), 7},
	} {
		if got := Get(c.b); got != c.want {
			t.Errorf("Get(% x) = %#x, not %#x", c.b, got, c.want)
		}
	}
}

func TestHex(t *testing.T) {
	if got := Hex(nil) + Hex([]byte{}); got != "" {
		t.Errorf("Hex of nothing: %q", got)
	}
	var all []byte
	for i := range 256 {
		b := []byte{byte(i)}
		if got, want := Hex(b), hex.EncodeToString(b); got != want {
			t.Errorf("Hex(% x) = %q, not %q", b, got, want)
		}
		all = append(all, byte(i))
	}
	if got, want := Hex(all), hex.EncodeToString(all); got != want {
		t.Errorf("Hex of all bytes = %q, not %q", got, want)
	}
}

func TestUnhex(t *testing.T) {
	for _, c := range []struct {
		s    string
		want []byte
	}{
		{"", nil},
		{"00", []byte{0}},
		{"0a", []byte{10}},
		{"a0", []byte{160}},
		{"09", []byte{9}},
		{"90", []byte{144}},
		{"ff", []byte{255}},
		{"0102", []byte{1, 2}},
		{"0123456789abcdef", []byte{0x01, 0x23, 0x45, 0x67, 0x89, 0xab, 0xcd, 0xef}},
	} {
		if got, ok := Unhex(c.s); !ok || !bytes.Equal(got, c.want) {
			t.Errorf("Unhex(%q) = % x, %v, not % x", c.s, got, ok, c.want)
		}
	}
}

func TestUnhexRefuses(t *testing.T) {
	for _, s := range []string{
		"0", "a", "g", "012", "01020", // odd
		"0A", "A0", "FF", "aF", // capitals
		"0g", "g0", "  ", " 0", "0 ", "+1", "-1", "0x", "0x01", "01 02", "01\n0",
		"0102zz", "zz0102", "01zz02", "010203040g", "01020304g0",
		"é", "éa0", "٠١", "\x00\x00", "\xff\xff",
	} {
		if got, ok := Unhex(s); ok || len(got) != 0 {
			t.Errorf("Unhex(%q) = % x, %v: to be refused", s, got, ok)
		}
	}
}

// TestUnhexDigits asks each byte, in either place of a pair.
func TestUnhexDigits(t *testing.T) {
	const right = "0123456789abcdef"
	for i := range 256 {
		c := []byte{byte(i)}
		value := bytes.IndexByte([]byte(right), c[0])
		high, highOk := Unhex(string(c) + "1")
		low, lowOk := Unhex("1" + string(c))
		if value < 0 {
			if highOk || lowOk || len(high) != 0 || len(low) != 0 {
				t.Errorf("%q is taken as a digit", c)
			}
			continue
		}
		if !highOk || !bytes.Equal(high, []byte{byte(value<<4 | 1)}) {
			t.Errorf("%q ahead = % x, %v", c, high, highOk)
		}
		if !lowOk || !bytes.Equal(low, []byte{byte(1<<4 | value)}) {
			t.Errorf("%q behind = % x, %v", c, low, lowOk)
		}
	}
}

func TestDec(t *testing.T) {
	for _, n := range []uint64{0, 7, 9, 10, 42, 99, 100, 101, 120, 1000, 1234567890, most, math.MaxInt64} {
		if got, want := Dec(n), strconv.FormatUint(n, 10); got != want {
			t.Errorf("Dec = %q, not %q", got, want)
		}
	}
	for _, n := range numbers() {
		if got, want := Dec(n), strconv.FormatUint(n, 10); got != want {
			t.Errorf("Dec = %q, not %q", got, want)
		}
	}
	if got := Dec(math.MaxUint64); got != "18446744073709551615" {
		t.Errorf("Dec of the greatest = %q", got)
	}
}

// P1.3

func TestCountersNeverTurn(t *testing.T) {
	for _, a := range counters() {
		for _, b := range counters() {
			sum, less := Sum(a, b), Less(a, b)
			if sum < 0 || sum > most || less < 0 || less > most {
				t.Fatalf("of %d and %d: %d, %d", a, b, sum, less)
			}
			if sum < min(a, most) || sum < min(b, most) || less > max(a, 0) {
				t.Errorf("of %d and %d: %d, %d", a, b, sum, less)
			}
			if sum != Sum(b, a) {
				t.Errorf("Sum of %d and %d hangs on their order", a, b)
			}
			if back := Less(sum, b); sum < most && back != max(a, 0) {
				t.Errorf("Less of Sum of %d and %d = %d", a, b, back)
			}
		}
	}
}

func TestGetOfPut(t *testing.T) {
	for _, x := range numbers() {
		for size := -1; size <= 9; size++ {
			want := uint64(0)
			if size >= 8 {
				want = x
			} else if size > 0 {
				want = x % (1 << (8 * size))
			}
			if got := Get(Put(x, size)); got != want {
				t.Errorf("Get of Put(%#x, %d) = %#x, not %#x", x, size, got, want)
			}
		}
	}
}

func TestUnhexOfHex(t *testing.T) {
	var b []byte
	for i := range 300 {
		got, ok := Unhex(Hex(b))
		if !ok || !bytes.Equal(got, b) {
			t.Errorf("Unhex of Hex(% x) = % x, %v", b, got, ok)
		}
		b = append(b, byte(i*i+7*i))
	}
}

// R3

func TestArgumentsStay(t *testing.T) {
	row := []byte{1, 2, 3, 4, 5, 6, 7, 8, 9, 10, 11, 12}
	was := bytes.Clone(row)
	Get(row[:9])
	Hex(row[:9])
	if !bytes.Equal(row, was) {
		t.Errorf("% x became % x", was, row)
	}
}

func TestAnswersAreNew(t *testing.T) {
	first := Put(258, 2)
	text, _ := Unhex("0102")
	first[0], text[0] = 9, 9
	again, _ := Unhex("0102")
	if second := Put(258, 2); !bytes.Equal(second, []byte{1, 2}) || !bytes.Equal(again, []byte{1, 2}) {
		t.Errorf("an answer changed another: % x, % x", second, again)
	}
}

// The chapter's example.
func TestExample(t *testing.T) {
	if got := Sum(1<<62, 5); got != 1<<62 {
		t.Errorf("Sum(2^62, 5) = %d", got)
	}
	if got := Less(3, 5); got != 0 {
		t.Errorf("Less(3, 5) = %d", got)
	}
	if got := Put(258, 2); !bytes.Equal(got, []byte{0x01, 0x02}) {
		t.Errorf("Put(258, 2) = % x", got)
	}
	if got := Hex([]byte{0x0a}); got != "0a" {
		t.Errorf("Hex of 0a = %q", got)
	}
}
