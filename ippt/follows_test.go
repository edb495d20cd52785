package ippt

import (
	"bytes"
	"fmt"
	"math"
	"testing"

	"fairlead/api"
)

// P9.2

// change is something of a question that is otherwise, and what of a plaintext it belongs to.
type change struct {
	name   string
	part   byte
	change func(a *asked)
}

// What a change belongs to.
const (
	ofNothing = ' ' // that is within a plaintext
	ofPrimary = 'p'
	ofHead    = 'h' // the target's Type and Flags
	ofData    = 'd' // the target's Data
	ofBib     = 'b'
)

// counts tells whether a plaintext of a target under a scope shows what is otherwise.
func counts(part byte, target uint64, scope int) bool {
	switch part {
	case ofPrimary:
		return target == 0 || scope&1 != 0
	case ofHead:
		return target != 0 && scope&2 != 0
	case ofData:
		return target != 0
	case ofBib:
		return scope&4 != 0
	}
	return false
}

// placeOf answers where the target is; of the primary block a place without effect on it.
func placeOf(a *asked) int {
	for i, x := range a.b.Blocks {
		if x.Number == a.target {
			return i
		}
	}
	return 0
}

// ofThePrimary answers changes of the primary block, of one field each; none of them is another's.
func ofThePrimary() []change {
	var l []change
	add := func(name string, f func(b *api.Bundle)) {
		l = append(l, change{name, ofPrimary, func(a *asked) { f(&a.b) }})
	}
	for _, kind := range []int{0, 1} {
		add("Crc", func(b *api.Bundle) { b.Crc = kind })
	}
	for bit := 1; bit < 64; bit++ {
		add("Flags", func(b *api.Bundle) { b.Flags = 1 << bit })
	}
	for _, e := range []api.Eid{ipn(3, 8), ipn(7, 3), ipn(3, 0), ipn(math.MaxUint32, math.MaxUint32), dtn("//3/7"), dtn("//a/"), dtn("//a/b"), dtn("//a/b/")} {
		add("Dest", func(b *api.Bundle) { b.Dest = e })
		add("Source", func(b *api.Bundle) { b.Source = e })
		add("Report", func(b *api.Bundle) { b.Report = e })
	}
	add("Dest and Source", func(b *api.Bundle) { b.Dest, b.Source = b.Source, b.Dest })
	add("Report", func(b *api.Bundle) { b.Report = b.Source })
	add("Report", func(b *api.Bundle) { b.Report = b.Dest })
	for _, n := range []uint64{0, 1, 2, 23, 24, 255, 256, 1 << 32, math.MaxUint64} {
		add("Time", func(b *api.Bundle) { b.Time = n })
		add("Seq", func(b *api.Bundle) { b.Seq = n })
		add("Life", func(b *api.Bundle) { b.Life = n })
	}
	add("Time and Seq", func(b *api.Bundle) { b.Time, b.Seq = b.Seq, b.Time })
	return l
}

// ofTheTarget answers changes of what a plaintext has of its target, of one field each.
func ofTheTarget() []change {
	var l []change
	add := func(name string, part byte, f func(x *api.Block)) {
		l = append(l, change{name, part, func(a *asked) { f(&a.b.Blocks[placeOf(a)]) }})
	}
	for bit := range 64 {
		add("Flags", ofHead, func(x *api.Block) { x.Flags ^= 1 << bit })
	}
	for _, data := range [][]byte{
		{}, {0}, {1}, {4}, {0, 0}, {0x82, 9}, {0x82, 9, 2}, {0x82, 9, 1, 0}, {0, 0x82, 9, 1}, {9, 0x82, 1}, []byte("ab"), []byte("abd"), []byte("abcd"), []byte("cba"),
		{5, 5}, {0x41, 5}, row(23), row(24), row(255), row(256), row(4095), row(4096),
	} {
		add("Data", ofData, func(x *api.Block) { x.Data = data })
	}
	return l
}

// ofTheBib answers changes of the integrity block, of one field each.
func ofTheBib() []change {
	var l []change
	for _, n := range edges() {
		// None is one that ask has: 11, 9 and 0.
		n += 100
		l = append(l,
			change{"kind", ofBib, func(a *asked) { a.kind = n }},
			change{"number", ofBib, func(a *asked) { a.number = n }},
			change{"flags", ofBib, func(a *asked) { a.flags = n }},
		)
	}
	return append(l, change{"kind and number", ofBib, func(a *asked) { a.kind, a.number = a.number, a.kind }})
}

// ofNoPart answers changes that no plaintext shows.
func ofNoPart() []change {
	return []change{
		{"nothing", ofNothing, func(a *asked) {}},
		{"Crc of blocks", ofNothing, func(a *asked) {
			for i := range a.b.Blocks {
				a.b.Blocks[i].Crc = (a.b.Blocks[i].Crc + 1) % 3
			}
		}},
		{"the target's Crc", ofNothing, func(a *asked) { x := &a.b.Blocks[placeOf(a)]; x.Crc = (x.Crc + 1) % 3 }},
		{"the order of blocks", ofNothing, func(a *asked) { l := a.b.Blocks; l[0], l[1], l[2], l[3] = l[3], l[2], l[0], l[1] }},
		{"what other blocks are", ofNothing, func(a *asked) {
			for i, x := range a.b.Blocks {
				if x.Number != a.target && x.Type != api.BlkPayload {
					a.b.Blocks[i] = api.Block{Type: 193, Number: x.Number + 1000, Flags: 77, Crc: 1, Data: row(77)}
				}
			}
		}},
		{"another payload", ofNothing, func(a *asked) {
			if a.target != 1 {
				a.b.Blocks[4].Flags, a.b.Blocks[4].Data = 77, row(4096)
			}
		}},
		{"no other block", ofNothing, func(a *asked) {
			l, at := a.b.Blocks, placeOf(a)
			if at < 4 && a.target != 0 {
				a.b.Blocks = []api.Block{l[at], l[4]}
			} else {
				a.b.Blocks = l[4:]
			}
		}},
		{"more blocks", ofNothing, func(a *asked) {
			for i := range uint64(11) {
				a.b.Blocks = append([]api.Block{{Type: 200, Number: 1000 + i, Data: row(9)}}, a.b.Blocks...)
			}
		}},
	}
}

func changes() []change {
	var l []change
	for _, more := range [][]change{ofNoPart(), ofThePrimary(), ofTheTarget(), ofTheBib()} {
		l = append(l, more...)
	}
	return l
}

// TestOfOneChange: a plaintext shows just what its scope asks for, and its target.
func TestOfOneChange(t *testing.T) {
	for _, target := range []uint64{0, 1, 2, 4, 300} {
		for scope := range 8 {
			was := ask(target, scope)
			want := must(t, was)
			for _, c := range changes() {
				now := was.with(c.change)
				if c.part == ofData && bytes.Equal(now.b.Blocks[placeOf(&now)].Data, was.b.Blocks[placeOf(&was)].Data) {
					continue
				}
				if got := must(t, now); bytes.Equal(got, want) == counts(c.part, target, scope) {
					t.Errorf("%s otherwise: %v, not as %v: % .100x, % .100x", c.name, now, was, got, want)
				}
			}
		}
	}
}

// said answers all that P9.2 names of a question, as a text.
func said(a asked) string {
	x := a.b.Blocks[placeOf(&a)]
	return fmt.Sprint(
		a.b.Flags, a.b.Crc, a.b.Dest, a.b.Source, a.b.Report, a.b.Time, a.b.Seq, a.b.Life, "|",
		x.Type, x.Flags, x.Data, "|", a.kind, a.number, a.flags,
	)
}

// TestOfAllPairs: under scope 7 two questions have one plaintext just if what P9.2 names is the same.
func TestOfAllPairs(t *testing.T) {
	for _, target := range []uint64{1, 2, 4, 300} {
		l := []asked{}
		for _, c := range changes() {
			l = append(l, ask(target, 7).with(c.change))
		}
		for _, kind := range []uint64{2, 12, 23, 24, 191, 193, 254, 255} {
			if target != 1 {
				l = append(l, ask(target, 7).with(func(a *asked) { a.b.Blocks[placeOf(a)].Type = kind }))
			}
		}
		plains, words := map[string]string{}, map[string]string{}
		for _, a := range l {
			w, s := string(must(t, a)), said(a)
			if other, ok := plains[s]; ok && other != w {
				t.Errorf("%v: two plaintexts, % x, % x", a, w, other)
			}
			if other, ok := words[w]; ok && other != s {
				t.Errorf("one plaintext of %.200s, and of %.200s: % x", s, other, w)
			}
			plains[s], words[w] = w, s
		}
		if len(plains) < 200 || len(plains) > len(l)-6 {
			t.Errorf("target %d: %d plaintexts of %d questions", target, len(plains), len(l))
		}
	}
}

// TestOfPiecesThatMove: what stands at the end of one piece is not what stands at the beginning of the next.
func TestOfPiecesThatMove(t *testing.T) {
	whole := func(x api.Block, kind, number, flags uint64) asked {
		return ask(x.Number, 7).with(func(a *asked) {
			a.b.Blocks[3] = x
			a.kind, a.number, a.flags = kind, number, flags
		})
	}
	l := []asked{
		whole(api.Block{Type: 5, Number: 5, Flags: 5}, 5, 5, 5),
		whole(api.Block{Type: 5, Number: 5, Flags: 5}, 5, 5, 0x40),
		whole(api.Block{Type: 5, Number: 5, Flags: 5, Data: []byte{0x40}}, 5, 5, 5),
		whole(api.Block{Type: 5, Number: 5, Flags: 5, Data: []byte{5}}, 5, 5, 5),
		whole(api.Block{Type: 5, Number: 5, Flags: 5, Data: []byte{5, 0x40}}, 5, 5, 5),
		whole(api.Block{Type: 5, Number: 5, Flags: 5, Data: []byte{0x41, 5}}, 5, 5, 5),
		whole(api.Block{Type: 5, Number: 5, Flags: 0x18}, 5, 5, 5),
		whole(api.Block{Type: 5, Number: 5, Flags: 0x1805}, 5, 5, 5),
		whole(api.Block{Type: 5, Number: 5, Flags: 5}, 0x18, 5, 5),
		whole(api.Block{Type: 5, Number: 5, Flags: 5}, 5, 0x18, 5),
		whole(api.Block{Type: 5, Number: 5, Flags: 0x0505}, 5, 5, 0),
		whole(api.Block{Type: 5, Number: 5, Flags: 0}, 0x0505, 5, 5),
		whole(api.Block{Type: 5, Number: 5, Flags: 5}, 0, 0x0505, 5),
	}
	seen := map[string]string{}
	for _, a := range l {
		w := string(must(t, a))
		if other, ok := seen[w]; ok {
			t.Errorf("one plaintext of %v, and of %s: % x", a, other, w)
		}
		seen[w] = a.String()
	}
}

// TestOfScopesAndTargets: of one bundle no two scopes have one plaintext, nor, with 2 in scope, two targets that are alike but for their Number.
func TestOfScopesAndTargets(t *testing.T) {
	twins := func(target uint64, scope int) asked {
		return ask(target, scope).with(func(a *asked) {
			for i := range 4 {
				a.b.Blocks[i] = api.Block{Type: 192, Number: uint64(i + 2), Data: []byte("twin")}
			}
		})
	}
	seen := map[string]int{}
	for scope := range 8 {
		for _, target := range []uint64{0, 1, 2} {
			w := string(must(t, twins(target, scope)))
			if other, ok := seen[w]; ok && other != scope {
				t.Errorf("scopes %d and %d have one plaintext: % x", scope, other, w)
			}
			seen[w] = scope
		}
		for _, other := range []uint64{3, 4, 5} {
			same := bytes.Equal(must(t, twins(2, scope)), must(t, twins(other, scope)))
			if same != (scope&2 == 0) {
				t.Errorf("scope %d, targets 2 and %d: one plaintext is %v", scope, other, same)
			}
		}
	}
}
