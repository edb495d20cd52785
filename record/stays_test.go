package record

import (
	"bytes"
	"testing"

	"fairlead/api"
)

// R3, R4, R6, R7

// spoil changes all of a list, what is behind its end, too.
func spoil(b []byte) {
	b = b[:cap(b)]
	for i := range b {
		b[i] ^= 0xff
	}
}

// roomy answers the same bytes, with others behind their end.
func roomy(b []byte) []byte {
	return append(append(make([]byte, 0, len(b)+40), b...), rising(40)...)[:len(b)]
}

// sizes are how many bytes of data the tests here take.
func sizes() []int {
	return []int{0, 1, 57, 58, 255, 256, 8192}
}

// TestFrameIsNewMemory: no answer shares memory with what was handed in, or with another answer.
func TestFrameIsNewMemory(t *testing.T) {
	for _, n := range sizes() {
		data := roomy(rising(n))
		was := bytes.Clone(data[:cap(data)])
		r := api.Record{Type: 5, Data: data}
		a, _ := Frame(3, r)
		b, _ := Frame(3, r)
		want := bytes.Clone(b)
		spoil(a)
		if !bytes.Equal(b, want) {
			t.Fatalf("%d bytes: two answers are one", n)
		}
		if !bytes.Equal(data[:cap(data)], was) {
			t.Fatalf("%d bytes: what was handed in was changed", n)
		}
		spoil(data)
		if !bytes.Equal(b, want) {
			t.Fatalf("%d bytes: the answer is what was handed in", n)
		}
	}
}

// TestNextIsNewMemory: the same of Next.
func TestNextIsNewMemory(t *testing.T) {
	for _, n := range sizes() {
		b := roomy(framed(t, 3, api.Record{Type: 5, Data: rising(n)}))
		was := bytes.Clone(b[:cap(b)])
		x, _, _ := Next(3, b)
		y, _, e := Next(3, b)
		if e != api.OK {
			t.Fatal(e)
		}
		spoil(x.Data)
		if !bytes.Equal(y.Data, rising(n)) {
			t.Fatalf("%d bytes: two answers are one", n)
		}
		if !bytes.Equal(b[:cap(b)], was) {
			t.Fatalf("%d bytes: what was handed in was changed", n)
		}
		spoil(b)
		if !bytes.Equal(y.Data, rising(n)) {
			t.Fatalf("%d bytes: the answer is what was handed in", n)
		}
	}
}

// TestScanIsNewMemory: the same of Scan, and no two records of an answer share any.
func TestScanIsNewMemory(t *testing.T) {
	var l []api.Record
	for i, n := range sizes() {
		l = append(l, api.Record{Type: 1 + i, Data: rising(n)})
	}
	b, _ := row(t, 3, l)
	b = roomy(b)
	was := bytes.Clone(b[:cap(b)])
	x, _ := Scan(3, b)
	y, _ := Scan(3, b)
	for i := range x {
		spoil(x[i].Data)
		_ = append(x[i].Data, 7, 7, 7, 7, 7, 7, 7, 7)
		for j := i + 1; j < len(x); j++ {
			if !sameRecord(x[j], l[j]) {
				t.Fatalf("records %d and %d are one", i, j)
			}
		}
		x[i].Type = 77
	}
	if !sameRecords(y, l) {
		t.Fatal("two answers are one")
	}
	if !bytes.Equal(b[:cap(b)], was) {
		t.Fatal("what was handed in was changed")
	}
	spoil(b)
	if !sameRecords(y, l) {
		t.Fatal("the answer is what was handed in")
	}
}

// TestSizeStays: Size changes nothing of what it is handed.
func TestSizeStays(t *testing.T) {
	for _, n := range append(sizes(), 8193) {
		data := roomy(rising(n))
		was := bytes.Clone(data[:cap(data)])
		Size(api.Record{Type: 1, Data: data})
		if !bytes.Equal(data[:cap(data)], was) {
			t.Fatalf("%d bytes: what was handed in was changed", n)
		}
	}
}

// TestRoomIsNobodys: what a list has behind its end is not read: a record whose end stands there is cut.
func TestRoomIsNobodys(t *testing.T) {
	b, ends := row(t, 3, some())
	for n := range b {
		k := 0
		for k+1 < len(ends) && ends[k+1] <= n {
			k++
		}
		scans(t, 3, b[:n], some()[:k], ends[k])
		fromStart, size, e := Next(3, b[:n])
		r, wantSize, wantE := Next(3, bytes.Clone(b[:n]))
		if e != wantE || size != wantSize || !sameRecord(fromStart, r) {
			t.Fatalf("%d bytes with room behind: %d, %d, without: %d, %d", n, size, e, wantSize, wantE)
		}
	}
	data := rising(8193)
	if a, e := Frame(3, api.Record{Type: 1, Data: data[:8192]}); e != api.OK || len(a) != 8199 {
		t.Errorf("8192 bytes with room behind: %d bytes, %d", len(a), e)
	}
}

// TestRefusedStays: what was handed in stays where there is no record, too.
func TestRefusedStays(t *testing.T) {
	for _, r := range []api.Record{{Type: 0, Data: roomy(rising(9))}, {Type: 256, Data: roomy(rising(9))}, {Type: 1, Data: roomy(rising(8193))}} {
		was := bytes.Clone(r.Data[:cap(r.Data)])
		if b, e := Frame(1, r); e != api.ErrRecord || len(b) != 0 {
			t.Fatalf("Frame(%s) = %s, %d", toldRecord(r), told(b), e)
		}
		if !bytes.Equal(r.Data[:cap(r.Data)], was) {
			t.Fatalf("%s was changed", toldRecord(r))
		}
	}
	good := framed(t, 1, api.Record{Type: 1, Data: rising(9)})
	for _, b := range [][]byte{roomy(good[:2]), roomy(good[:9]), roomy(make([]byte, 30)), roomy(bytes.Repeat([]byte{0xff}, 30))} {
		was := bytes.Clone(b[:cap(b)])
		Next(2, b)
		Scan(2, b)
		if !bytes.Equal(b[:cap(b)], was) {
			t.Fatalf("%x was changed to %x", was, b)
		}
	}
}

// TestSeveralAtOnce: calls at one time know nothing of one another.
func TestSeveralAtOnce(t *testing.T) {
	done := make(chan bool)
	for i := range 8 {
		go func() {
			ok := true
			l := []api.Record{{Type: 1 + i, Data: rising(10 * i)}, {Type: 9}}
			for range 200 {
				a, _ := Frame(uint64(i), l[0])
				b, _ := Frame(uint64(i), l[1])
				got, n := Scan(uint64(i), append(a, b...))
				ok = ok && sameRecords(got, l) && n == 10*i+14
			}
			done <- ok
		}()
	}
	for range 8 {
		if !<-done {
			t.Error("a call knows of another one")
		}
	}
}
