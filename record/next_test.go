package record

import (
	"bytes"
	"errors"
	"fmt"
	"math"
	"math/rand"
	"testing"

	"fairlead/api"
)

// P14.2, of Next

// heads are records that the tests cut and change.
func heads() []api.Record {
	return []api.Record{
		{Type: 1},
		{Type: 1, Data: []byte{5}},
		{Type: 255, Data: []byte{0, 0, 0}},
		{Type: 128, Data: rising(255)},
		{Type: 2, Data: rising(256)},
		{Type: 3, Data: rising(300)},
	}
}

// TestNextReads: what Frame writes, of each edge.
func TestNextReads(t *testing.T) {
	for _, kind := range []int{1, 2, 128, 255} {
		for _, n := range []int{0, 1, 2, 255, 256, 8191, 8192} {
			for _, salt := range []uint64{0, 1, math.MaxUint64} {
				want := api.Record{Type: kind, Data: rising(n)}
				b := framed(t, salt, want)
				r, size, e := Next(salt, b)
				if e != api.OK || size != n+7 || !sameRecord(r, want) {
					t.Fatalf("Next(%#x, %s) = %s, %d, %d", salt, told(b), toldRecord(r), size, e)
				}
				reads(t, salt, b)
			}
		}
	}
}

// TestNextOfFew: nil, and up to seven bytes.
func TestNextOfFew(t *testing.T) {
	fails(t, 0, nil, api.ErrShort)
	fails(t, 0, []byte{}, api.ErrShort)
	whole := framed(t, 0, api.Record{Type: 1})
	for n := range 7 {
		fails(t, 0, whole[:n], api.ErrShort)
	}
	if _, n, e := Next(0, whole); n != 7 || e != api.OK {
		t.Errorf("Next of seven bytes: %d, %d", n, e)
	}
	// No bytes but those of the head tell anything while there are too few.
	for n := 3; n < 7; n++ {
		for _, fill := range []byte{0, 1, 0xff} {
			b := bytes.Repeat([]byte{fill}, n)
			copy(b, []byte{0, 0, 1})
			fails(t, 0, b, api.ErrShort)
		}
	}
}

// TestNextOfNoughts: seven noughts and more are of Type 0.
func TestNextOfNoughts(t *testing.T) {
	for n := range 100 {
		want := api.ErrRecord
		if n < 3 {
			want = api.ErrShort
		}
		for _, salt := range salts() {
			fails(t, salt, make([]byte, n), want)
		}
	}
}

// TestNextCut: a record that ends too soon, at each place.
func TestNextCut(t *testing.T) {
	for _, r := range heads() {
		b := framed(t, 5, r)
		for n := range b {
			fails(t, 5, b[:n], api.ErrShort)
			fails(t, 5, b[:n:n], api.ErrShort)
		}
	}
	b := framed(t, 5, api.Record{Type: 7, Data: rising(8192)})
	for _, n := range []int{0, 1, 2, 3, 6, 7, 8, 4096, 8191, 8192, 8193, 8194, 8195, 8196, 8197, 8198} {
		fails(t, 5, b[:n], api.ErrShort)
	}
}

// TestNextBehind: what stands behind a record is not read.
func TestNextBehind(t *testing.T) {
	for _, want := range heads() {
		b := framed(t, 5, want)
		for _, more := range [][]byte{{0}, {1}, {0xff}, make([]byte, 20), b, rising(9000)} {
			r, n, e := Next(5, append(bytes.Clone(b), more...))
			if e != api.OK || n != len(b) || !sameRecord(r, want) {
				t.Fatalf("%s with %s behind: %s, %d, %d", told(b), told(more), toldRecord(r), n, e)
			}
		}
	}
}

// TestNextOfType0: it is no record, of all lengths and with a sum that is right; it is told ahead of bytes that are missing.
func TestNextOfType0(t *testing.T) {
	for _, n := range []int{0, 1, 255, 256, 8191, 8192, 8193, 65535} {
		b := raw(5, uint16(n), 0, rising(n))
		fails(t, 5, b, api.ErrRecord)
		for _, cut := range []int{3, 4, 5, 6, 7, n + 3, n + 6} {
			if cut < len(b) {
				fails(t, 5, b[:cut], api.ErrRecord)
			}
		}
		for cut := range 3 {
			fails(t, 5, b[:cut], api.ErrShort)
		}
	}
}

// TestNextOfLengths: each length that two bytes tell, with three bytes, and each one past the end with a sum that is right.
func TestNextOfLengths(t *testing.T) {
	for n := range 65536 {
		b := []byte{byte(n >> 8), byte(n), 9}
		want := api.ErrShort
		if n > 8192 {
			want = api.ErrRecord
		}
		if r, size, e := Next(1, b); e != want || size != 0 || r.Type != 0 || len(r.Data) != 0 {
			t.Fatalf("Next(%x): %s, %d, %d", b, toldRecord(r), size, e)
		}
		if _, size, e := Next(1, b[:2]); e != api.ErrShort || size != 0 {
			t.Fatalf("Next(%x): %d, %d", b[:2], size, e)
		}
	}
	for _, n := range []int{8193, 8194, 8447, 8448, 16384, 32767, 32768, 65535} {
		b := raw(1, uint16(n), 9, rising(n))
		for _, size := range []int{3, 4, 6, 7, 8, 8199, 8200, n + 2, n + 6, n + 7} {
			fails(t, 1, b[:size], api.ErrRecord)
		}
		fails(t, 1, append(b, rising(50)...), api.ErrRecord)
	}
}

// TestNextFirst: which is told first where two things are wrong.
func TestNextFirst(t *testing.T) {
	turned := func(b []byte) []byte {
		b = bytes.Clone(b)
		b[len(b)-1] ^= 1
		return b
	}
	good := framed(t, 1, api.Record{Type: 9, Data: rising(40)})
	for _, c := range []struct {
		what string
		b    []byte
		want api.Errno
	}{
		{"a sum that is wrong, and cut", turned(good)[:46], api.ErrShort},
		{"data that is wrong, and the sum cut", append(turned(good[:43]), good[43:46]...), api.ErrShort},
		{"Type 0 and a sum that is wrong", turned(raw(1, 4, 0, rising(4))), api.ErrRecord},
		{"Type 0 and cut", raw(1, 4, 0, rising(4))[:9], api.ErrRecord},
		{"Type 0, of three bytes", []byte{0, 4, 0}, api.ErrRecord},
		{"a length past the end, and cut", raw(1, 8193, 9, rising(8193))[:8199], api.ErrRecord},
		{"a length past the end, of three bytes", []byte{0x20, 1, 9}, api.ErrRecord},
		{"a length past the end, of two bytes", []byte{0x20, 1}, api.ErrShort},
		{"Type 0 and a length past the end", []byte{0xff, 0xff, 0}, api.ErrRecord},
		{"the greatest length, and cut", raw(1, 8192, 9, rising(8192))[:8198], api.ErrShort},
		{"the greatest length and another sum", turned(raw(1, 8192, 9, rising(8192))), api.ErrRecord},
	} {
		t.Run(c.what, func(t *testing.T) { fails(t, 1, c.b, c.want) })
	}
}

// TestNextTurned: with any bit turned it is no record; in its data and its sum always by the sum.
func TestNextTurned(t *testing.T) {
	for _, r := range heads() {
		b := framed(t, 6, r)
		for i := range len(b) * 8 {
			c := bytes.Clone(b)
			c[i/8] ^= 1 << (i % 8)
			_, n, e := Next(6, c)
			if e == api.OK || n != 0 || i >= 16 && e != api.ErrRecord {
				t.Fatalf("%s, bit %d turned: %d, %d", told(b), i, n, e)
			}
			reads(t, 6, c)
		}
	}
}

// TestNextSums: each byte of the sum tells, whatever it is.
func TestNextSums(t *testing.T) {
	b := framed(t, 6, api.Record{Type: 1, Data: []byte{5}})
	for at := 4; at < 8; at++ {
		for x := range 256 {
			c := bytes.Clone(b)
			c[at] = byte(x)
			if c[at] != b[at] {
				fails(t, 6, c, api.ErrRecord)
			}
		}
	}
	for _, sum := range []string{"\x00\x00\x00\x00", "\xff\xff\xff\xff", string([]byte{b[7], b[6], b[5], b[4]})} {
		fails(t, 6, append(bytes.Clone(b[:4]), sum...), api.ErrRecord)
	}
}

// TestNextOtherSalt: with another salt it is no record.
func TestNextOtherSalt(t *testing.T) {
	for _, r := range heads() {
		for _, salt := range salts() {
			b := framed(t, salt, r)
			for _, other := range salts() {
				if other != salt {
					fails(t, other, b, api.ErrRecord)
				}
			}
			for i := range 64 {
				fails(t, salt^1<<i, b, api.ErrRecord)
			}
		}
	}
}

// TestNextOfChance: bytes of chance, most of them with a head that may be.
func TestNextOfChance(t *testing.T) {
	c := rand.New(rand.NewSource(142))
	for range 20000 {
		b := make([]byte, c.Intn(40))
		c.Read(b)
		if len(b) > 2 && c.Intn(4) > 0 {
			b[0], b[1] = 0, byte(c.Intn(len(b)))
		}
		reads(t, uint64(c.Intn(3)), b)
	}
}

// TestNextSmall: each row of up to three bytes of some that tell, with what may be behind.
func TestNextSmall(t *testing.T) {
	few := []byte{0, 1, 2, 0x1f, 0x20, 0x21, 0x80, 0xff}
	rows := [][]byte{nil}
	for len(rows) > 0 {
		b := rows[0]
		rows = rows[1:]
		for _, more := range []int{0, 1, 3, 4, 5, 300} {
			reads(t, 0, append(bytes.Clone(b), make([]byte, more)...))
		}
		if len(b) < 3 {
			for _, x := range few {
				rows = append(rows, append(bytes.Clone(b), x))
			}
		}
	}
}

// TestNextAnswersTheSame: the same call answers the same.
func TestNextAnswersTheSame(t *testing.T) {
	for _, r := range heads() {
		b := framed(t, 4, r)
		for cut := range len(b) + 1 {
			r1, n1, e1 := Next(4, b[:cut])
			Next(5, b)
			r2, n2, e2 := Next(4, b[:cut])
			if fmt.Sprint(r1, n1, e1) != fmt.Sprint(r2, n2, e2) {
				t.Fatalf("%s: two answers", told(b[:cut]))
			}
		}
	}
}

// TestWhyNone: why a record is none is wrapped, and found.
func TestWhyNone(t *testing.T) {
	good := framed(t, 1, api.Record{Type: 9, Data: rising(9)})
	for _, c := range []struct {
		b    []byte
		why  error
		want api.Errno
		text string
	}{
		{good[:2], errShort, api.ErrShort, "record: its head: bytes that end too soon"},
		{good[:9], errShort, api.ErrShort, "record: its data: bytes that end too soon"},
		{[]byte{0, 0, 0}, errRecord, api.ErrRecord, "record: its type: no record"},
		{[]byte{0x20, 1, 1}, errRecord, api.ErrRecord, "record: its length: no record"},
		{raw(2, 0, 1, nil), errRecord, api.ErrRecord, "record: its sum: no record"},
	} {
		_, _, err := read(1, c.b)
		if err == nil || !errors.Is(err, c.why) || err.Error() != c.text || numberOf(err) != c.want {
			t.Errorf("%x: %v, not %s", c.b, err, c.text)
		}
	}
	if numberOf(nil) != api.OK || numberOf(errors.New("else")) != api.OK {
		t.Error("a number of no fault")
	}
}
