package record

import (
	"bytes"
	"math/rand"
	"testing"

	"fairlead/api"
)

// P14.3, and rows of chance against the second model

// TestScanOfFrames: Scan of Frames is what was framed, and Next goes from one to the next by their Sizes.
func TestScanOfFrames(t *testing.T) {
	c := rand.New(rand.NewSource(144))
	for range 1500 {
		salt := c.Uint64()
		l := chanceRecords(c, 12)
		b, ends := row(t, salt, l)
		scans(t, salt, b, l, len(b))
		for i, want := range l {
			r, n, e := Next(salt, b[ends[i]:])
			if e != api.OK || n != Size(want) || n != ends[i+1]-ends[i] || !sameRecord(r, want) {
				t.Fatalf("record %d of %d: %s, %d, %d", i, len(l), toldRecord(r), n, e)
			}
		}
	}
}

// TestFrameOfNext: what Next read is written as it was.
func TestFrameOfNext(t *testing.T) {
	c := rand.New(rand.NewSource(145))
	for range 1500 {
		salt := c.Uint64()
		b, _ := row(t, salt, chanceRecords(c, 3))
		r, n, e := Next(salt, b)
		if e == api.OK && !bytes.Equal(framed(t, salt, r), b[:n]) {
			t.Fatalf("%s is not written as %s", toldRecord(r), told(b[:n]))
		}
	}
}

// TestOtherSaltReadsNothing: no record of a row is read with another salt, wherever Scan begins.
func TestOtherSaltReadsNothing(t *testing.T) {
	c := rand.New(rand.NewSource(146))
	for range 1500 {
		salt := c.Uint64()
		b, ends := row(t, salt, chanceRecords(c, 12))
		other := salt ^ 1<<c.Intn(64)
		if c.Intn(2) == 0 {
			other = c.Uint64()
		}
		for _, at := range ends {
			scans(t, other, b[at:], nil, 0)
		}
	}
}

// TestRowsOfChance: rows that are cut, turned, put together of two salts, or read from another place.
func TestRowsOfChance(t *testing.T) {
	c := rand.New(rand.NewSource(147))
	for range 4000 {
		b, _ := row(t, 1, chanceRecords(c, 4))
		other, _ := row(t, uint64(c.Intn(2)), chanceRecords(c, 4))
		b = append(b, other...)
		for range c.Intn(4) {
			if len(b) == 0 {
				continue
			}
			switch at := c.Intn(len(b)); c.Intn(4) {
			case 0:
				b[at] ^= byte(1 + c.Intn(255))
			case 1:
				b = b[:at]
			case 2:
				b = b[at:]
			default:
				b = append(b[:at], b[at+1:]...)
			}
		}
		reads(t, 1, b)
		reads(t, 0, b)
	}
}
