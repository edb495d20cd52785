package policy

import (
	"bytes"
	"crypto/hmac"
	"crypto/sha256"
	"encoding/binary"
	"fmt"
	"math"
	"slices"
	"strings"
	"testing"

	"fairlead/api"
	"fairlead/bib"
	"fairlead/bundle"
	"fairlead/eid"
)

// What the tests of all files stand on: bundles, integrity blocks put together by hand, and models of the calls.

func dtn(name string) api.Eid {
	return api.Eid{Scheme: api.Dtn, Name: name}
}

func ipn(node, service uint64) api.Eid {
	return api.Eid{Scheme: api.Ipn, Node: node, Service: service}
}

// row answers bytes that look like chance, of a rule.
func row(size, seed int) []byte {
	b := make([]byte, size)
	n := uint32(seed)
	for i := range b {
		n = n*1664525 + 1013904223
		b[i] = byte(n >> 24)
	}
	return b
}

// keyOf answers a key of a number, each another one.
func keyOf(n int) []byte {
	return fmt.Appendf(nil, "key %d", n)
}

// ringOf answers a ring of so many keys.
func ringOf(n int) [][]byte {
	var l [][]byte
	for i := range n {
		l = append(l, keyOf(i))
	}
	return l
}

// base answers a bundle that may be, of four blocks, none of them of integrity.
func base() api.Bundle {
	return api.Bundle{
		Crc: 2, Dest: ipn(3, 7), Source: ipn(1, 2), Report: dtn("//r/"), Time: 3, Seq: 4, Life: 1000,
		Blocks: []api.Block{
			{Type: api.BlkHops, Number: 2, Crc: 2, Data: []byte{0x82, 9, 1}},
			{Type: api.BlkAge, Number: 4, Flags: 1, Crc: 1, Data: []byte{5}},
			{Type: 192, Number: 300, Flags: 24},
			{Type: api.BlkPayload, Number: 1, Flags: 4, Data: []byte("abc")},
		},
	}
}

// cloned answers a bundle of memory of its own.
func cloned(b api.Bundle) api.Bundle {
	b.Blocks = slices.Clone(b.Blocks)
	for i := range b.Blocks {
		b.Blocks[i].Data = bytes.Clone(b.Blocks[i].Data)
	}
	return b
}

// with answers a bundle with something otherwise.
func with(b api.Bundle, change func(b *api.Bundle)) api.Bundle {
	b = cloned(b)
	change(&b)
	return b
}

// put answers a bundle with one more block ahead of the payload, whether it may be or not.
func put(b api.Bundle, y api.Block) api.Bundle {
	return with(b, func(b *api.Bundle) { b.Blocks = slices.Insert(b.Blocks, len(b.Blocks)-1, y) })
}

// brief tells something, but not all of what is long.
func brief(x any) string {
	s := fmt.Sprint(x)
	return s[:min(len(s), 400)]
}

// head answers an item's head.
func head(major byte, n uint64) []byte {
	for i, most := range []uint64{math.MaxUint8, math.MaxUint16, math.MaxUint32, math.MaxUint64} {
		switch {
		case n < 24:
			return []byte{major<<5 | byte(n)}
		case n <= most:
			return append([]byte{major<<5 | byte(24+i)}, binary.BigEndian.AppendUint64(nil, n)[8-1<<i:]...)
		}
	}
	return nil
}

// wire answers an integrity block's Data by the words of P10.1, from ipn:1.2.
func wire(targets []uint64, scope int, tags [][]byte) []byte {
	w := head(4, uint64(len(targets)))
	for _, n := range targets {
		w = append(w, head(0, n)...)
	}
	w = append(w, 1, 1, 0x82, 2, 0x82, 1, 2, 0x82, 0x82, 1, 5, 0x82, 3, byte(scope))
	w = append(w, head(4, uint64(len(tags)))...)
	for _, tag := range tags {
		w = append(append(w, 0x81, 0x82, 1), head(2, uint64(len(tag)))...)
		w = append(w, tag...)
	}
	return w
}

// plain answers what a tag of an integrity block is made over, by the words of P9.1; false of a target that is none.
func plain(b api.Bundle, target uint64, scope int, y api.Block) ([]byte, bool) {
	primary, _ := bundle.Primary(b)
	w := head(0, uint64(scope))
	if target == 0 {
		if scope&4 != 0 {
			w = slices.Concat(w, head(0, y.Type), head(0, y.Number), head(0, y.Flags))
		}
		return append(w, primary...), true
	}
	at := slices.IndexFunc(b.Blocks, func(x api.Block) bool { return x.Number == target && x.Type != 11 })
	if at < 0 {
		return nil, false
	}
	x := b.Blocks[at]
	if scope&1 != 0 {
		w = append(w, primary...)
	}
	if scope&2 != 0 {
		w = slices.Concat(w, head(0, x.Type), head(0, x.Number), head(0, x.Flags))
	}
	if scope&4 != 0 {
		w = slices.Concat(w, head(0, y.Type), head(0, y.Number), head(0, y.Flags))
	}
	return slices.Concat(w, head(2, uint64(len(x.Data))), x.Data), true
}

// tagOf answers a tag by the library.
func tagOf(key []byte, plain []byte) []byte {
	h := hmac.New(sha256.New, key)
	h.Write(plain)
	return h.Sum(nil)
}

// seal is an integrity block that is to be made.
type seal struct {
	number  uint64
	flags   uint64
	scope   int
	key     []byte
	targets []uint64
}

// sealOf answers a seal of a number under a scope by a key, of the payload if nothing else is told.
func sealOf(number uint64, scope int, key []byte, targets ...uint64) seal {
	if targets == nil {
		targets = []uint64{1}
	}
	return seal{number: number, scope: scope, key: key, targets: targets}
}

// sealed answers a bundle with one more integrity block; a target that is none has a tag over nothing.
func sealed(b api.Bundle, s seal) api.Bundle {
	y := api.Block{Type: 11, Number: s.number, Flags: s.flags}
	var tags [][]byte
	for _, target := range s.targets {
		w, _ := plain(b, target, s.scope, y)
		tags = append(tags, tagOf(s.key, w))
	}
	y.Data = wire(s.targets, s.scope, tags)
	return put(b, y)
}

// sealedAll answers a bundle with more integrity blocks.
func sealedAll(b api.Bundle, l ...seal) api.Bundle {
	for _, s := range l {
		b = sealed(b, s)
	}
	return b
}

// asking answers a policy that asks for a tag by the key of a place, under a scope.
func asking(key int, scope int) api.Policy {
	return api.Policy{Key: key, Scope: scope}
}

// modelCheck tells what P11.1 asks for.
func modelCheck(p api.Policy, ring [][]byte) bool {
	right := slices.Contains([]int{0, 1, 2, 3, 4, 5, 6, 7}, p.Scope)
	places := map[int]int{-1: 1}
	for i, key := range ring {
		places[i] = 1
		right = right && len(key) > 0 && len(key) < 65
	}
	for _, source := range p.Sources {
		right = right && eid.Text(source) != ""
	}
	return right && places[p.Key] == 1 && len(ring) < 17 && len(p.Sources) < 17
}

// modelBlock tells of an integrity block whether it covers the payload, and whether it is accepted by that key, with what is in its scope.
func modelBlock(b api.Bundle, y api.Block, key []byte) (covers bool, right bool, scope int) {
	x, errno := bib.Read(y.Data)
	if y.Type != 11 || errno != api.OK || slices.Index(x.Targets, 1) < 0 {
		return false, false, 0
	}
	right = true
	for i, target := range x.Targets {
		w, there := plain(b, target, x.Scope, y)
		right = right && there && bytes.Equal(tagOf(key, w), x.Tags[i])
	}
	return true, right, x.Scope
}

// modelJudge tells what P11.2 asks for, row by row of its words.
func modelJudge(p api.Policy, ring [][]byte, b api.Bundle) int {
	if !modelCheck(p, ring) {
		return 1
	}
	if bundle.Check(b) != api.OK {
		return 2
	}
	from := len(p.Sources) == 0
	for _, source := range p.Sources {
		from = from || eid.Text(source) == eid.Text(b.Source)
	}
	if !from {
		return 3
	}
	if p.Life != 0 && p.Life < b.Life {
		return 4
	}
	if p.Key == -1 {
		return 0
	}
	code := 5
	for _, y := range b.Blocks {
		covers, right, scope := modelBlock(b, y, ring[p.Key])
		switch {
		case right && p.Scope&^scope == 0:
			return 0
		case covers:
			code = 6
		}
	}
	return code
}

// judges asks for a code of Judge, and of the model.
func judges(t *testing.T, p api.Policy, ring [][]byte, b api.Bundle, want int) {
	t.Helper()
	if got := Judge(p, ring, b); got != want {
		t.Errorf("Judge(%v, %s, %s) = %d, not %d", p, brief(ring), brief(b), got, want)
	}
	if got := modelJudge(p, ring, b); got != want {
		t.Errorf("the model: Judge(%v, %s, %s) = %d, not %d", p, brief(ring), brief(b), got, want)
	}
}

// noSources answers endpoints that may not be.
func noSources() []api.Eid {
	return []api.Eid{
		{}, ipn(0, 0), ipn(0, 1), ipn(math.MaxUint32+1, 0), ipn(1, math.MaxUint32+1), ipn(math.MaxUint64, 1),
		dtn("none"), dtn("//a"), dtn("//A/"), dtn("a/b"), dtn("///"), dtn("//a b/"), dtn("//" + strings.Repeat("n", 62) + "/"),
		{Scheme: api.Dtn, Node: 1}, {Scheme: api.Dtn, Name: "//a/", Service: 1}, {Scheme: api.Ipn, Name: "//a/", Node: 1},
		{Scheme: 3, Node: 1}, {Scheme: -1, Name: "//a/"}, {Scheme: math.MaxInt, Node: 1},
	}
}

// sources answers so many endpoints that may be, each another one, none of them the base's source.
func sources(n int) []api.Eid {
	var l []api.Eid
	for i := range n {
		if i%2 == 0 {
			l = append(l, ipn(uint64(100+i), uint64(i)))
		} else {
			l = append(l, dtn(fmt.Sprintf("//n%d/s", i)))
		}
	}
	return l
}

// refusable answers changes that make a bundle one that may not be.
func refusable() []func(b *api.Bundle) {
	return []func(b *api.Bundle){
		func(b *api.Bundle) { *b = api.Bundle{} },
		func(b *api.Bundle) { b.Flags |= api.FlagFragment },
		func(b *api.Bundle) { b.Crc = 3 },
		func(b *api.Bundle) { b.Crc = -1 },
		func(b *api.Bundle) { b.Dest = dtn("") },
		func(b *api.Bundle) { b.Source = dtn("") },
		func(b *api.Bundle) { b.Source = ipn(0, 0) },
		func(b *api.Bundle) { b.Report = dtn("none") },
		func(b *api.Bundle) { b.Blocks = nil },
		func(b *api.Bundle) { b.Blocks = b.Blocks[:len(b.Blocks)-1] },
		func(b *api.Bundle) { b.Blocks[0].Number = 0 },
		func(b *api.Bundle) { b.Blocks[0].Number = 1 },
		func(b *api.Bundle) { b.Blocks[0].Type = 256 },
		func(b *api.Bundle) { b.Blocks[0].Crc = 3 },
		func(b *api.Bundle) { b.Blocks[0].Type = api.BlkAge },
		func(b *api.Bundle) { b.Blocks[len(b.Blocks)-1].Data = make([]byte, 4097) },
		func(b *api.Bundle) {
			for i := range uint64(17 - len(b.Blocks)) {
				b.Blocks = slices.Insert(b.Blocks, 0, api.Block{Type: 192, Number: 400 + i})
			}
		},
	}
}

// rightBundles answers bundles that may be, signed and not.
func rightBundles() []api.Bundle {
	b := base()
	l := []api.Bundle{b, {
		Dest: dtn("//a/b"), Source: ipn(1, 2), Report: dtn(""), Blocks: []api.Block{{Type: 1, Number: 1}},
	}}
	for _, change := range []func(b *api.Bundle){
		func(b *api.Bundle) { b.Source, b.Flags = dtn(""), api.FlagWhole },
		func(b *api.Bundle) { b.Source = dtn("//a/b") },
		func(b *api.Bundle) { b.Life, b.Time, b.Seq = math.MaxUint64, math.MaxUint64, math.MaxUint64 },
		func(b *api.Bundle) { b.Life, b.Time, b.Seq = 0, 0, 0 },
		func(b *api.Bundle) { b.Flags = math.MaxUint64 &^ api.FlagFragment },
		func(b *api.Bundle) { b.Crc = 0 },
		func(b *api.Bundle) { b.Blocks[3].Data = nil },
		func(b *api.Bundle) { b.Blocks[3].Data = row(4096, 1) },
		func(b *api.Bundle) {
			for i := range uint64(12) {
				b.Blocks = slices.Insert(b.Blocks, 0, api.Block{Type: 192, Number: 400 + i})
			}
		},
	} {
		l = append(l, with(b, change))
	}
	return append(l,
		sealed(b, sealOf(9, 7, keyOf(0))),
		sealed(b, sealOf(9, 0, keyOf(1), 2)),
		sealedAll(b, sealOf(9, 0, keyOf(1)), sealOf(10, 3, keyOf(0), 0, 1, 4)),
		put(b, api.Block{Type: 11, Number: 9}),
		put(b, api.Block{Type: 11, Number: 9, Data: []byte("no items")}),
	)
}

// The tests' own writer, held against layer 10's.
func TestOwnSeals(t *testing.T) {
	for scope := range 8 {
		for _, targets := range [][]uint64{{1}, {0}, {300, 1}, {1, 0, 2, 4, 300}} {
			want, errno := bib.Sign(base(), targets, 700, scope, ipn(1, 2), keyOf(3))
			got := sealed(base(), sealOf(700, scope, keyOf(3), targets...))
			if errno != api.OK || fmt.Sprint(got) != fmt.Sprint(want) {
				t.Errorf("scope %d, targets %v: %v, not %v, %d", scope, targets, got, want, errno)
			}
		}
	}
}

// The chapter's example: Key -1, no Sources, Life 0.
func TestExample(t *testing.T) {
	for _, b := range rightBundles() {
		if errno := bundle.Check(b); errno != api.OK {
			t.Fatalf("%s: %d", brief(b), errno)
		}
		for scope := range 8 {
			for _, n := range []int{0, 1, 16} {
				judges(t, asking(-1, scope), ringOf(n), b, 0)
			}
		}
	}
	if got := Reason(Judge(api.Policy{Key: -1}, nil, base())); got != "accepted" {
		t.Errorf("the word is %q", got)
	}
}
