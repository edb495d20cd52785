package record

import (
	"bytes"
	"math"
	"math/rand"
	"testing"

	"fairlead/api"
)

// P14.2, of Scan

// some are several records, two of them alike.
func some() []api.Record {
	return []api.Record{
		{Type: 1, Data: []byte{5}},
		{Type: 255},
		{Type: 6, Data: rising(30)},
		{Type: 1, Data: []byte{5}},
		{Type: 9, Data: make([]byte, 12)},
	}
}

// scans fails unless Scan answers those records and bytes.
func scans(t *testing.T, salt uint64, b []byte, want []api.Record, size int) {
	t.Helper()
	l, n := Scan(salt, b)
	if n != size || !sameRecords(l, want) {
		t.Fatalf("Scan(%#x, %s) = %d records, %d bytes, not %d, %d", salt, told(b), len(l), n, len(want), size)
	}
	reads(t, salt, b)
}

func TestScanOfNothing(t *testing.T) {
	for _, salt := range salts() {
		scans(t, salt, nil, nil, 0)
		scans(t, salt, []byte{}, nil, 0)
		for n := range 70 {
			scans(t, salt, make([]byte, n), nil, 0)
		}
		scans(t, salt, bytes.Repeat([]byte{0xff}, 70), nil, 0)
	}
}

func TestScanOfOne(t *testing.T) {
	for _, n := range []int{0, 1, 255, 256, 8191, 8192} {
		r := api.Record{Type: 3, Data: rising(n)}
		scans(t, 2, framed(t, 2, r), []api.Record{r}, n+7)
	}
}

func TestScanOfMany(t *testing.T) {
	var l []api.Record
	for n := range 600 {
		b, ends := row(t, math.MaxUint64, l)
		if n%40 == 0 || n < 10 {
			scans(t, math.MaxUint64, b, l, ends[n])
		}
		l = append(l, api.Record{Type: 1 + n%255, Data: rising(n % 19)})
	}
	large := []api.Record{{Type: 1, Data: rising(8192)}, {Type: 2, Data: make([]byte, 8192)}, {Type: 3, Data: rising(8191)}, {Type: 4}}
	b, _ := row(t, 0, large)
	scans(t, 0, b, large, 3*8199-1+7)
}

// TestScanCut: of a row that is cut at each place all records that are whole.
func TestScanCut(t *testing.T) {
	b, ends := row(t, 8, some())
	for n := range len(b) + 1 {
		k := 0
		for k+1 < len(ends) && ends[k+1] <= n {
			k++
		}
		scans(t, 8, b[:n], some()[:k], ends[k])
	}
}

// TestScanStops: bytes that are no record, ahead, between and behind.
func TestScanStops(t *testing.T) {
	for _, no := range [][]byte{
		{0},
		{0, 0, 0},
		make([]byte, 7),
		make([]byte, 64),
		{0xff},
		bytes.Repeat([]byte{0xff}, 9),
		{0x20, 1, 1},
		{0, 1, 1, 5, 0, 0, 0, 0},
		raw(8, 1, 0, []byte{5}),
		raw(9, 1, 1, []byte{5}),
		raw(8, 8193, 1, rising(8193)),
		raw(8, 8192, 1, rising(8192))[:100],
	} {
		for k := range len(some()) + 1 {
			ahead, ends := row(t, 8, some()[:k])
			behind, _ := row(t, 8, some()[k:])
			b := append(append(ahead, no...), behind...)
			scans(t, 8, b, some()[:k], ends[k])
		}
	}
}

// TestScanTurned: with a bit turned all records ahead of it, and not those behind.
func TestScanTurned(t *testing.T) {
	b, ends := row(t, 8, some())
	for i := range len(b) * 8 {
		k := 0
		for ends[k+1] <= i/8 {
			k++
		}
		c := bytes.Clone(b)
		c[i/8] ^= 1 << (i % 8)
		scans(t, 8, c, some()[:k], ends[k])
	}
}

// TestScanOfSalts: records of another salt end it, wherever they stand.
func TestScanOfSalts(t *testing.T) {
	l := some()
	for _, salt := range salts() {
		for _, other := range salts() {
			if other == salt {
				continue
			}
			for k := range len(l) + 1 {
				ahead, ends := row(t, salt, l[:k])
				behind, _ := row(t, other, l[k:])
				scans(t, salt, append(ahead, behind...), l[:k], ends[k])
			}
		}
	}
}

// TestScanIsNext: Scan is what Next answers from place to place.
func TestScanIsNext(t *testing.T) {
	c := rand.New(rand.NewSource(143))
	for range 1000 {
		b, _ := row(t, 8, chanceRecords(c, 6))
		for range c.Intn(3) {
			if len(b) > 0 {
				b[c.Intn(len(b))] ^= byte(1 << c.Intn(8))
			}
		}
		b = b[:c.Intn(len(b)+1)]
		var want []api.Record
		at := 0
		for {
			r, n, e := Next(8, b[at:])
			if e != api.OK {
				break
			}
			want = append(want, r)
			at += n
		}
		scans(t, 8, b, want, at)
	}
}

// TestScanOfAllBytes: as many bytes as a program is given, as few of them a record as may be.
func TestScanOfAllBytes(t *testing.T) {
	const size = 1 << 22
	b := bytes.Repeat(framed(t, 1, api.Record{Type: 1}), size/7)
	l, n := Scan(1, b)
	if len(l) != size/7 || n != len(b) {
		t.Errorf("%d records, %d bytes", len(l), n)
	}
}
