package record

import (
	"bytes"
	"encoding/binary"
	"encoding/hex"
	"fmt"
	"hash/crc32"
	"math"
	"math/rand"
	"slices"
	"testing"

	"fairlead/api"
)

// What is said of records by no one but the chapter.
const (
	mostBytes = 8192
	around    = 7 // bytes of a record without data
)

// salts are those that the tests go through.
func salts() []uint64 {
	return []uint64{0, 1, 255, 256, 1 << 31, 1 << 32, 1 << 56, math.MaxInt64, math.MaxUint64}
}

// modelSum reckons a sum by the library's table.
func modelSum(salt uint64, b []byte) []byte {
	c := crc32.New(crc32.MakeTable(crc32.Castagnoli))
	binary.Write(c, binary.BigEndian, salt)
	c.Write(b)
	return binary.BigEndian.AppendUint32(nil, c.Sum32())
}

// raw writes what looks like a record, with the sum that it ought to have, whatever its type, and whatever length it tells.
func raw(salt uint64, length uint16, kind byte, data []byte) []byte {
	b := binary.BigEndian.AppendUint16(nil, length)
	b = append(b, kind)
	b = append(b, data...)
	return append(b, modelSum(salt, b)...)
}

// modelFrame writes a record, or nothing, in another way.
func modelFrame(salt uint64, r api.Record) ([]byte, api.Errno) {
	if r.Type != int(byte(r.Type)) || r.Type == 0 || len(r.Data) > mostBytes {
		return nil, api.ErrRecord
	}
	return raw(salt, uint16(len(r.Data)), byte(r.Type), r.Data), api.OK
}

// modelNext reads by asking for the one record that would be written with the head that is there: it must be what b begins with.
func modelNext(salt uint64, b []byte) (api.Record, int, api.Errno) {
	var none api.Record
	if len(b) >= 3 && (b[2] == 0 || int(b[0])<<8+int(b[1]) > mostBytes) {
		return none, 0, api.ErrRecord
	}
	if len(b) < around {
		return none, 0, api.ErrShort
	}
	length := int(b[0])<<8 + int(b[1])
	if len(b)-around < length {
		return none, 0, api.ErrShort
	}
	r := api.Record{Type: int(b[2]), Data: b[3:][:length]}
	written, e := modelFrame(salt, r)
	if e != api.OK || !bytes.HasPrefix(b, written) {
		return none, 0, api.ErrRecord
	}
	return r, len(written), api.OK
}

// modelScan reads what is ahead, and then all behind it, by a call in a call.
func modelScan(salt uint64, b []byte) ([]api.Record, int) {
	r, n, e := modelNext(salt, b)
	if e != api.OK {
		return nil, 0
	}
	l, more := modelScan(salt, b[n:])
	return append([]api.Record{r}, l...), n + more
}

// sameRecord tells whether two records are alike; no data and nil are.
func sameRecord(a, b api.Record) bool {
	return a.Type == b.Type && bytes.Equal(a.Data, b.Data)
}

func sameRecords(a, b []api.Record) bool {
	return slices.EqualFunc(a, b, sameRecord)
}

// told shortens what a test tells.
func told(b []byte) string {
	if len(b) > 24 {
		return fmt.Sprintf("%x.. (%d bytes)", b[:24], len(b))
	}
	return fmt.Sprintf("%x", b)
}

func toldRecord(r api.Record) string {
	return fmt.Sprintf("type %d, data %s", r.Type, told(r.Data))
}

// framed answers what Frame answers, and fails if it is another than the model's, or if Size tells another length.
func framed(t *testing.T, salt uint64, r api.Record) []byte {
	t.Helper()
	b, e := Frame(salt, r)
	want, wantE := modelFrame(salt, r)
	if e != wantE || !bytes.Equal(b, want) {
		t.Fatalf("Frame(%#x, %s) = %s, %d, not %s, %d", salt, toldRecord(r), told(b), e, told(want), wantE)
	}
	if n := Size(r); n != len(want) {
		t.Fatalf("Size(%s) = %d, not %d", toldRecord(r), n, len(want))
	}
	return b
}

// reads fails if Next or Scan answers another than the model does.
func reads(t *testing.T, salt uint64, b []byte) {
	t.Helper()
	r, n, e := Next(salt, b)
	wantR, wantN, wantE := modelNext(salt, b)
	if !sameRecord(r, wantR) || n != wantN || e != wantE {
		t.Fatalf("Next(%#x, %s) = %s, %d, %d, not %s, %d, %d", salt, told(b), toldRecord(r), n, e, toldRecord(wantR), wantN, wantE)
	}
	l, n := Scan(salt, b)
	wantL, wantN := modelScan(salt, b)
	if !sameRecords(l, wantL) || n != wantN {
		t.Fatalf("Scan(%#x, %s) = %d records, %d, not %d, %d", salt, told(b), len(l), n, len(wantL), wantN)
	}
}

// fails fails unless Next answers that error, and nothing besides.
func fails(t *testing.T, salt uint64, b []byte, want api.Errno) {
	t.Helper()
	r, n, e := Next(salt, b)
	if e != want || n != 0 || r.Type != 0 || len(r.Data) != 0 {
		t.Fatalf("Next(%#x, %s) = %s, %d, %d, not %d", salt, told(b), toldRecord(r), n, e, want)
	}
	reads(t, salt, b)
}

// rising has n bytes, no two of them in a row alike.
func rising(n int) []byte {
	b := make([]byte, n)
	for i := range b {
		b[i] = byte(i + i/256 + 1)
	}
	return b
}

// chanceRecord is a record of chance, most often a short one.
func chanceRecord(c *rand.Rand) api.Record {
	n := c.Intn(12)
	if c.Intn(40) == 0 {
		n = c.Intn(mostBytes + 1)
	}
	b := make([]byte, n)
	c.Read(b)
	return api.Record{Type: 1 + c.Intn(255), Data: b}
}

// chanceRecords are up to most records.
func chanceRecords(c *rand.Rand, most int) []api.Record {
	l := make([]api.Record, c.Intn(most+1))
	for i := range l {
		l[i] = chanceRecord(c)
	}
	return l
}

// row has records one behind the other, and where each one begins, and the last one ends.
func row(t *testing.T, salt uint64, l []api.Record) ([]byte, []int) {
	t.Helper()
	var b []byte
	ends := []int{0}
	for _, r := range l {
		f, e := Frame(salt, r)
		if e != api.OK {
			t.Fatalf("Frame(%s): %d", toldRecord(r), e)
		}
		b = append(b, f...)
		ends = append(ends, len(b))
	}
	return b, ends
}

// TestExample is the chapter's example.
func TestExample(t *testing.T) {
	for _, salt := range salts() {
		b, e := Frame(salt, api.Record{Type: 1, Data: []byte{5}})
		if e != api.OK || len(b) != 8 || hex.EncodeToString(b[:4]) != "00010105" {
			t.Errorf("Frame(%#x) = %x, %d", salt, b, e)
		}
		if n := Size(api.Record{Type: 1, Data: []byte{5}}); n != 8 {
			t.Errorf("Size = %d", n)
		}
	}
}
