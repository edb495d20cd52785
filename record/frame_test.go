package record

import (
	"encoding/hex"
	"fmt"
	"math"
	"math/rand"
	"testing"

	"fairlead/api"
)

// P14.1

// TestFrameBytes: bytes that were reckoned elsewhere.
func TestFrameBytes(t *testing.T) {
	for _, c := range []struct {
		salt uint64
		kind int
		data string
		want string
	}{
		{0x0, 1, "", "00000158ba35fb"},
		{0x0, 1, "05", "00010105a872ab48"},
		{0x1, 1, "05", "000101059063c4e4"},
		{0xffffffffffffffff, 1, "05", "000101050f3aac9f"},
		{0x0, 255, "", "0000ff07ace5a9"},
		{0x102030405060708, 2, "00ff", "00020200ffc87bc8c7"},
		{0x0, 6, "000000", "000306000000fa1d9577"},
		{0x8000000000000000, 128, "666169726c656164", "000880666169726c65616455eff79c"},
	} {
		data, err := hex.DecodeString(c.data)
		if err != nil {
			t.Fatal(err)
		}
		b, e := Frame(c.salt, api.Record{Type: c.kind, Data: data})
		if e != api.OK || hex.EncodeToString(b) != c.want {
			t.Errorf("Frame(%#x, %d, %s) = %x, %d, not %s", c.salt, c.kind, c.data, b, e, c.want)
		}
	}
}

// TestFrameEdges: each type with each length, and each salt.
func TestFrameEdges(t *testing.T) {
	types := []int{math.MinInt, -256, -255, -1, 0, 1, 2, 127, 128, 254, 255, 256, 257, 511, 512, 65536, 65537, 1<<32 + 1, math.MaxInt}
	for _, kind := range types {
		for _, n := range []int{0, 1, 2, 255, 256, 257, 8191, 8192, 8193, 8447, 65535, 65536, 65537} {
			r := api.Record{Type: kind, Data: rising(n)}
			may := kind >= 1 && kind <= 255 && n <= 8192
			for _, salt := range []uint64{0, 1, math.MaxUint64} {
				b, e := Frame(salt, r)
				switch {
				case may && (e != api.OK || len(b) != n+7 || Size(r) != n+7):
					t.Fatalf("Frame(%#x, %s) = %s, %d; Size = %d", salt, toldRecord(r), told(b), e, Size(r))
				case !may && (e != api.ErrRecord || len(b) != 0 || Size(r) != 0):
					t.Fatalf("Frame(%#x, %s) = %s, %d; Size = %d", salt, toldRecord(r), told(b), e, Size(r))
				}
				framed(t, salt, r)
			}
		}
	}
}

// TestFrameOfNil: no data is nil, too.
func TestFrameOfNil(t *testing.T) {
	for _, salt := range salts() {
		a := framed(t, salt, api.Record{Type: 9})
		b := framed(t, salt, api.Record{Type: 9, Data: []byte{}})
		if len(a) != 7 || string(a) != string(b) {
			t.Errorf("%x and %x", a, b)
		}
	}
	for _, kind := range []int{-1, 0, 256} {
		framed(t, 0, api.Record{Type: kind})
	}
}

// TestEachType: each type from below 0 to past the end.
func TestEachType(t *testing.T) {
	for kind := -300; kind <= 600; kind++ {
		b := framed(t, 7, api.Record{Type: kind, Data: []byte("x")})
		if may := kind >= 1 && kind <= 255; may != (len(b) == 8) || may && b[2] != byte(kind) {
			t.Fatalf("type %d: %x", kind, b)
		}
	}
}

// TestEachLength: each length up to past the end tells itself in two bytes, the highest first.
func TestEachLength(t *testing.T) {
	data := rising(8300)
	for n := range data {
		r := api.Record{Type: 200, Data: data[:n]}
		b, e := Frame(3, r)
		if n > 8192 {
			if e != api.ErrRecord || len(b) != 0 || Size(r) != 0 {
				t.Fatalf("%d bytes: %s, %d", n, told(b), e)
			}
			continue
		}
		if e != api.OK || len(b) != n+7 || Size(r) != n+7 || int(b[0]) != n/256 || int(b[1]) != n%256 || b[2] != 200 || string(b[3:n+3]) != string(data[:n]) {
			t.Fatalf("%d bytes: %s, %d", n, told(b), e)
		}
	}
}

// TestSaltIsInTheSum: each bit of the salt tells, and of what Frame answers in the sum alone.
func TestSaltIsInTheSum(t *testing.T) {
	for _, r := range []api.Record{{Type: 1}, {Type: 255, Data: []byte{5}}, {Type: 3, Data: rising(300)}} {
		seen := map[string]int{}
		plain := framed(t, 0, r)
		for i := range 64 {
			b := framed(t, 1<<i, r)
			end := len(b) - 4
			if string(b[:end]) != string(plain[:end]) {
				t.Fatalf("salt 1<<%d changes %s to %s", i, told(plain), told(b))
			}
			seen[string(b[end:])]++
		}
		if len(seen) != 64 || seen[string(plain[len(plain)-4:])] != 0 {
			t.Fatalf("%s: %d sums of 64 salts", toldRecord(r), len(seen))
		}
	}
}

// TestFrameOfChance: records and salts of chance.
func TestFrameOfChance(t *testing.T) {
	c := rand.New(rand.NewSource(141))
	for range 4000 {
		r := chanceRecord(c)
		if c.Intn(8) == 0 {
			r.Type = c.Intn(800) - 300
		}
		framed(t, c.Uint64(), r)
	}
}

// TestFrameAnswersTheSame: the same call answers the same.
func TestFrameAnswersTheSame(t *testing.T) {
	for _, n := range []int{0, 1, 100, 8192, 8193} {
		r := api.Record{Type: 4, Data: rising(n)}
		a, e := Frame(1, r)
		for range 3 {
			framed(t, 2, api.Record{Type: 5, Data: []byte("between")})
			b, f := Frame(1, r)
			if fmt.Sprint(a, e) != fmt.Sprint(b, f) {
				t.Fatalf("%d bytes: %s, %d and %s, %d", n, told(a), e, told(b), f)
			}
		}
	}
}
