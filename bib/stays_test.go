package bib

import (
	"bytes"
	"fmt"
	"testing"

	"fairlead/api"
)

// R3, R4

// roomy answers a bundle with room behind each of its lists, in which something stands.
func roomy(b api.Bundle) api.Bundle {
	l := append(make([]api.Block, 0, len(b.Blocks)+2), b.Blocks...)
	for i := range l {
		l[i].Data = roomyBytes(l[i].Data)
	}
	more := append(l, api.Block{Type: 77, Number: 70}, api.Block{Type: api.BlkBib, Number: 71, Data: wire(made(1, 1))})
	b.Blocks = more[:len(l)]
	return b
}

func roomyBytes(b []byte) []byte {
	more := append(bytes.Clone(b), "behind"...)
	return more[:len(b)]
}

// room tells all that a bundle's lists hold, what is behind their ends, too.
func room(b api.Bundle) string {
	s := fmt.Sprint(b)
	for _, x := range b.Blocks[:cap(b.Blocks)] {
		s += fmt.Sprintf("|%d %d %d %d %x", x.Type, x.Number, x.Flags, x.Crc, x.Data[:cap(x.Data)])
	}
	return s
}

// spoil changes all that a bundle's lists hold, what is behind their ends, too.
func spoil(b api.Bundle) {
	l := b.Blocks[:cap(b.Blocks)]
	for i := range l {
		spoilBytes(l[i].Data)
		l[i] = api.Block{Type: 99}
	}
}

func spoilBytes(b []byte) {
	b = b[:cap(b)]
	for i := range b {
		b[i] ^= 0x55
	}
}

func spoilBib(x api.Bib) {
	clear(x.Targets[:cap(x.Targets)])
	for _, tag := range x.Tags {
		spoilBytes(tag)
	}
	clear(x.Tags[:cap(x.Tags)])
}

// TestArgumentsStay: no call changes what it was given, nor does what is done to an answer; what is behind a list's end is nobody's.
func TestArgumentsStay(t *testing.T) {
	for _, b := range []api.Bundle{base(), must(t, ask(7, 1, 0)), several()} {
		rich := roomy(b)
		key := roomyBytes(key())
		targets := append(make([]uint64, 0, 5), 1, 0, 2, 300, 9)[:4]
		was, keyWas := room(rich), string(key[:cap(key)])
		for range 2 {
			for scope := -1; scope <= 8; scope++ {
				for n := range len(targets) + 1 {
					for _, number := range []uint64{8, 9, 1, 0} {
						a := asked{rich, targets[:n], number, scope, ipn(1, 2), key}
						signedRight(t, a)
						got, _ := a.sign()
						spoil(got)
					}
				}
			}
			for _, number := range []uint64{0, 1, 2, 9, 10, 20, 70, 71} {
				verifiedRight(t, rich, number, key)
				x, _ := Verify(rich, number, key)
				spoilBib(x)
				covers(t, rich, number, modelCovers(rich, number)...)
				l := Covers(rich, number)
				clear(l[:cap(l)])
			}
			if room(rich) != was || string(key[:cap(key)]) != keyWas {
				t.Fatalf("arguments were changed: %s", brief(rich))
			}
			if fmt.Sprint(targets[:5]) != "[1 0 2 300 9]" {
				t.Fatalf("the targets are now %v", targets[:5])
			}
		}
	}
}

// TestContentsStay: neither do Data and Read.
func TestContentsStay(t *testing.T) {
	for _, c := range contentsByHand(t) {
		x := changed(c.x, func(x *api.Bib) {
			x.Targets = append(x.Targets, 77)[:len(x.Targets)]
			for i := range x.Tags {
				x.Tags[i] = roomyBytes(x.Tags[i])
			}
		})
		w, _ := Data(x)
		again, _ := Data(x)
		spoilBytes(w)
		if !sameBib(x, c.x) || x.Targets[:len(x.Targets)+1][len(x.Targets)] != 77 || !bytes.HasPrefix(x.Tags[0][:38], append(bytes.Clone(c.x.Tags[0]), "behind"...)) {
			t.Errorf("the contents are now %v", x)
		}
		spoilBib(x)
		if !bytes.Equal(again, unhex(t, c.w)) {
			t.Errorf("Data's answer is now % x", again)
		}
		b := roomyBytes(again)
		one, _ := Read(b)
		two, _ := Read(b)
		spoilBib(one)
		if !bytes.Equal(b, unhex(t, c.w)) || string(b[len(b):len(b)+6]) != "behind" {
			t.Errorf("the bytes are now % x", b)
		}
		spoilBytes(b)
		if !sameBib(two, c.x) {
			t.Errorf("Read's answer is now %v, not %v", two, c.x)
		}
		// One tag is nothing to another.
		for i, tag := range two.Tags {
			for range 9 {
				tag = append(tag, 0xaa)
			}
			spoilBytes(two.Tags[i])
			for j := i + 1; j < len(two.Tags); j++ {
				if !bytes.Equal(two.Tags[j], c.x.Tags[j]) {
					t.Errorf("the tags %d and %d of %v share memory", i, j, c.x)
				}
			}
		}
	}
}

// TestAnswersStay: neither a later call nor what becomes of the arguments changes an answer.
func TestAnswersStay(t *testing.T) {
	for scope := range 8 {
		for _, targets := range lists() {
			a := ask(scope, append([]uint64(nil), targets...)...)
			want, _ := modelSign(a)
			first, second := must(t, a), must(t, a)
			must(t, ask(7, 300, 0))
			spoil(second)
			spoil(a.b)
			clear(a.targets)
			clear(a.key)
			if !same(first, want) {
				t.Fatalf("scope %d, targets %v: %v, not %v", scope, targets, first, want)
			}
			wantBib, _ := modelVerify(want, 9, key())
			x, errno := Verify(first, 9, key())
			y, _ := Verify(first, 9, key())
			l := Covers(first, targets[0])
			spoilBib(y)
			spoil(first)
			if errno != api.OK || !sameBib(x, wantBib) || len(l) != 1 || l[0] != 9 {
				t.Fatalf("scope %d, targets %v: %v, %v, not %v", scope, targets, x, l, wantBib)
			}
		}
	}
}
