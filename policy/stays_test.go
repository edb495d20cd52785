package policy

import (
	"bytes"
	"fmt"
	"math/rand"
	"slices"
	"testing"

	"fairlead/api"
)

// R3, R4

// roomyBytes answers bytes with room behind their end, in which something stands.
func roomyBytes(b []byte) []byte {
	return append(bytes.Clone(b), "behind"...)[:len(b)]
}

// roomy answers a question with room behind the end of each of its lists, in which something stands.
func roomy(p api.Policy, ring [][]byte, b api.Bundle) (api.Policy, [][]byte, api.Bundle) {
	p.Sources = append(slices.Clone(p.Sources), b.Source, api.Eid{})[:len(p.Sources)]
	keys := append(slices.Clone(ring), nil, keyOf(50))[:len(ring)]
	for i, key := range keys {
		keys[i] = roomyBytes(key)
	}
	n := len(b.Blocks)
	b.Blocks = append(slices.Clone(b.Blocks), api.Block{Type: 77, Number: 70}, api.Block{Type: 11, Number: 1})[:n]
	for i := range b.Blocks {
		b.Blocks[i].Data = roomyBytes(b.Blocks[i].Data)
	}
	return p, keys, b
}

// whole answers all of a list, with what is behind its end.
func whole[T any](l []T) []T {
	return l[:cap(l)]
}

// told tells all that a question holds, what is behind the ends of its lists, too.
func told(p api.Policy, ring [][]byte, b api.Bundle) string {
	s := fmt.Sprint(p, whole(p.Sources), b, whole(b.Blocks))
	for _, key := range whole(ring) {
		s += fmt.Sprintf("|%x", whole(key))
	}
	for _, y := range whole(b.Blocks) {
		s += fmt.Sprintf("|%x", whole(y.Data))
	}
	return s
}

// TestArgumentsStay: no call changes what it was given, and what is behind a list's end is nobody's.
func TestArgumentsStay(t *testing.T) {
	c := rand.New(rand.NewSource(115))
	for range 3000 {
		p, ring, b := chance(c)
		want, may := modelJudge(p, ring, b), modelCheck(p, ring)
		p, ring, b = roomy(p, ring, b)
		was := told(p, ring, b)
		for range 2 {
			if got := Check(p, ring); got != may {
				t.Fatalf("Check(%v, %x) = %v, not %v", p, ring, got, may)
			}
			if got := Judge(p, ring, b); got != want {
				t.Fatalf("Judge(%v, %x, %s) = %d, not %d", p, ring, brief(b), got, want)
			}
			if told(p, ring, b) != was {
				t.Fatalf("arguments were changed: %v, %x, %s", p, ring, brief(b))
			}
		}
	}
}

// TestAnswersStay: neither a later call nor what becomes of the arguments changes an answer; nothing of a call is known to the next.
func TestAnswersStay(t *testing.T) {
	var words []string
	for code := range 8 {
		words = append(words, Reason(code))
	}
	ring := ringOf(2)
	b := sealed(base(), sealOf(9, 7, keyOf(0)))
	p := asking(0, 7)
	for range 3 {
		judges(t, p, ring, b, 0)
		judges(t, asking(1, 7), ring, b, 6)
		judges(t, p, ring, base(), 5)
		judges(t, p, ring, api.Bundle{}, 2)
		judges(t, api.Policy{}, nil, b, 1)
		judges(t, p, ring, b, 0)
		// Of the same memory, otherwise filled.
		was := bytes.Clone(ring[0])
		ring[0][0]++
		judges(t, p, ring, b, 6)
		copy(ring[0], was)
		b.Blocks[4].Data[0]++
		judges(t, p, ring, b, 6)
		b.Blocks[4].Data[0]--
		p.Sources = sources(2)
		judges(t, p, ring, b, 3)
		p.Sources[1] = b.Source
		judges(t, p, ring, b, 0)
		p.Sources = nil
	}
	for code := range 8 {
		if got := Reason(code); got != words[code] {
			t.Errorf("Reason(%d) = %q, not %q", code, got, words[code])
		}
	}
}
