package bib

import (
	"bytes"
	"crypto/hmac"
	"crypto/sha256"
	"encoding/binary"
	"encoding/hex"
	"fmt"
	"math"
	"slices"
	"strings"
	"testing"

	"fairlead/api"
	"fairlead/bundle"
	"fairlead/eid"
	"fairlead/ippt"
)

// What the tests of all files stand on: bundles, contents put together in another way than package bib's, and models of its calls.

// The base's primary block, reckoned elsewhere.
const primary = "89 07 00 02 82 02 82 03 07 82 02 82 01 02 82 01 00 82 03 04 19 03e8 44 fc3ca71e"

// unhex reads bytes as people write them, blanks between.
func unhex(t *testing.T, s string) []byte {
	t.Helper()
	b, err := hex.DecodeString(strings.ReplaceAll(s, " ", ""))
	if err != nil {
		t.Fatal(err)
	}
	return b
}

func dtn(name string) api.Eid {
	return api.Eid{Scheme: api.Dtn, Name: name}
}

func ipn(node, service uint64) api.Eid {
	return api.Eid{Scheme: api.Ipn, Node: node, Service: service}
}

// key answers the key that most is signed with.
func key() []byte {
	return []byte("key of tenant 1")
}

// row answers bytes that look like chance, of a rule.
func row(size, seed int) []byte {
	b := make([]byte, size)
	n := uint32(seed)
	for i := range b {
		n = n*1664525 + 1013904223
		b[i] = byte(n >> 24)
	}
	return b
}

// base answers a bundle that may be, of four blocks, none of them of integrity.
func base() api.Bundle {
	return api.Bundle{
		Crc: 2, Dest: ipn(3, 7), Source: ipn(1, 2), Report: dtn(""), Time: 3, Seq: 4, Life: 1000,
		Blocks: []api.Block{
			{Type: api.BlkHops, Number: 2, Crc: 2, Data: []byte{0x82, 9, 1}},
			{Type: api.BlkAge, Number: 4, Flags: 1, Crc: 1, Data: []byte{5}},
			{Type: 192, Number: 300, Flags: 24},
			{Type: api.BlkPayload, Number: 1, Flags: 4, Data: []byte("abc")},
		},
	}
}

// cloned answers a bundle of memory of its own.
func cloned(b api.Bundle) api.Bundle {
	b.Blocks = slices.Clone(b.Blocks)
	for i := range b.Blocks {
		b.Blocks[i].Data = bytes.Clone(b.Blocks[i].Data)
	}
	return b
}

// with answers a bundle with something otherwise.
func with(b api.Bundle, change func(b *api.Bundle)) api.Bundle {
	b = cloned(b)
	change(&b)
	return b
}

// many answers so many blocks, of the numbers from 1 on, the payload last.
func many(n int) []api.Block {
	l := make([]api.Block, n)
	for i := range l {
		l[i] = api.Block{Type: 192, Number: uint64(n - i), Flags: uint64(20 + i), Crc: i % 3, Data: row(i, i)}
	}
	l[n-1].Type = api.BlkPayload
	return l
}

// put answers a bundle with a block of BlkBib of that Data ahead of the payload, whether it may be or not.
func put(b api.Bundle, number uint64, flags uint64, data []byte) api.Bundle {
	return with(b, func(b *api.Bundle) {
		at := len(b.Blocks) - 1
		b.Blocks = slices.Insert(b.Blocks, at, api.Block{Type: api.BlkBib, Number: number, Flags: flags, Data: data})
	})
}

// same tells whether two bundles are one; nil and empty lists are the same.
func same(x, y api.Bundle) bool {
	sameBlock := func(x, y api.Block) bool {
		return x.Type == y.Type && x.Number == y.Number && x.Flags == y.Flags && x.Crc == y.Crc && bytes.Equal(x.Data, y.Data)
	}
	return x.Flags == y.Flags && x.Crc == y.Crc && x.Dest == y.Dest && x.Source == y.Source && x.Report == y.Report &&
		x.Time == y.Time && x.Seq == y.Seq && x.Life == y.Life && slices.EqualFunc(x.Blocks, y.Blocks, sameBlock)
}

// sameBib tells whether two contents are one.
func sameBib(x, y api.Bib) bool {
	return x.Source == y.Source && x.Scope == y.Scope && slices.Equal(x.Targets, y.Targets) && slices.EqualFunc(x.Tags, y.Tags, bytes.Equal)
}

// brief tells something, but not all of what is long.
func brief(x any) string {
	s := fmt.Sprint(x)
	return s[:min(len(s), 300)]
}

// edges answers numbers at which an item's bytes grow more, and the greatest.
func edges() []uint64 {
	return []uint64{
		0, 1, 22, 23, 24, 25, 255, 256, 257, 65535, 65536, math.MaxUint32, math.MaxUint32 + 1,
		math.MaxInt64, math.MaxInt64 + 1, math.MaxUint64 - 1, math.MaxUint64,
	}
}

// made answers contents of so many targets, from first on.
func made(first uint64, n int) api.Bib {
	x := api.Bib{Source: ipn(1, 2), Scope: 7}
	for i := range n {
		x.Targets = append(x.Targets, first+uint64(i))
		x.Tags = append(x.Tags, row(32, i))
	}
	return x
}

// changed answers contents with something otherwise.
func changed(x api.Bib, change func(x *api.Bib)) api.Bib {
	x.Targets, x.Tags = slices.Clone(x.Targets), slices.Clone(x.Tags)
	for i := range x.Tags {
		x.Tags[i] = bytes.Clone(x.Tags[i])
	}
	change(&x)
	return x
}

// sources answers endpoints that integrity blocks may be from.
func sources() []api.Eid {
	return []api.Eid{
		ipn(1, 0), ipn(1, 2), ipn(23, 24), ipn(256, 65536), ipn(math.MaxUint32, math.MaxUint32),
		dtn("//a/"), dtn("//a/b"), dtn("//n-1_x.y/x/y/"), dtn("//" + strings.Repeat("n", 61) + "/"),
	}
}

// noSources answers endpoints that they may not be from.
func noSources() []api.Eid {
	return []api.Eid{
		dtn(""), {}, ipn(0, 0), ipn(0, 1), ipn(math.MaxUint32+1, 0), ipn(1, math.MaxUint32+1), ipn(math.MaxUint64, 1),
		dtn("none"), dtn("//a"), dtn("//A/"), dtn("a/b"), dtn("///"), dtn("//a b/"), dtn("//" + strings.Repeat("n", 62) + "/"),
		{Scheme: api.Dtn, Node: 1}, {Scheme: 3, Node: 1}, {Scheme: -1, Name: "//a/"}, {Scheme: 0, Node: 1, Service: 1}, {Scheme: math.MaxInt, Node: 1},
	}
}

// odd answers endpoints that they may not be from, with what no item of an endpoint shows.
func odd() []api.Eid {
	return []api.Eid{
		{Scheme: api.Dtn, Name: "//a/", Node: 1}, {Scheme: api.Dtn, Name: "//a/", Service: 1}, {Scheme: api.Ipn, Name: "//a/", Node: 1}, {Scheme: api.Ipn, Name: "-", Node: 1, Service: 2},
	}
}

// all answers contents that may be, the edges of their fields among them.
func all() []api.Bib {
	var l []api.Bib
	for n := 1; n <= 15; n++ {
		l = append(l, made(0, n), made(1, n), made(math.MaxUint64-14, n))
	}
	for scope := range 8 {
		for _, source := range sources() {
			l = append(l, changed(made(1, 2), func(x *api.Bib) { x.Scope, x.Source = scope, source }))
		}
	}
	for _, n := range edges() {
		l = append(l, made(n, 1))
	}
	l = append(l, changed(made(0, 15), func(x *api.Bib) { copy(x.Targets, edges()) }))
	l = append(l, changed(made(1, 15), func(x *api.Bib) { slices.Reverse(x.Targets) }))
	for _, c := range []byte{0, 1, 0x58, 0x81, 0xff} {
		l = append(l, changed(made(1, 3), func(x *api.Bib) {
			for i := range x.Tags {
				x.Tags[i] = bytes.Repeat([]byte{c}, 32)
			}
		}))
	}
	return l
}

// nones answers contents that may not be.
func nones() []api.Bib {
	l := []api.Bib{{}, {Source: ipn(1, 2)}, {Source: ipn(1, 2), Targets: []uint64{1}}, {Source: ipn(1, 2), Tags: [][]byte{row(32, 1)}}}
	add := func(x api.Bib, change func(x *api.Bib)) {
		l = append(l, changed(x, change))
	}
	for _, n := range []int{0, 16, 17, 30, 300} {
		add(made(1, n), func(x *api.Bib) {})
	}
	for i := range 15 {
		for j := range i {
			add(made(1, 15), func(x *api.Bib) { x.Targets[i] = x.Targets[j] })
		}
		for _, size := range []int{0, 1, 31, 33, 64, 4096} {
			add(made(1, 15), func(x *api.Bib) { x.Tags[i] = row(size, size) })
		}
		add(made(1, 15), func(x *api.Bib) { x.Tags = x.Tags[:i] })
		add(made(1, 15), func(x *api.Bib) { x.Targets = x.Targets[:i] })
	}
	for _, n := range edges() {
		add(made(n, 2), func(x *api.Bib) { x.Targets[1] = n })
	}
	for _, scope := range []int{-1, -2, -7, -8, -256, math.MinInt, 8, 9, 15, 16, 255, 256, 263, 1 << 32, 1<<32 + 7, math.MaxInt} {
		add(made(1, 2), func(x *api.Bib) { x.Scope = scope })
	}
	for _, source := range noSources() {
		add(made(1, 2), func(x *api.Bib) { x.Source = source })
	}
	return l
}

// head answers a head in another way than package cbor.
func head(major byte, n uint64) []byte {
	switch {
	case n < 24:
		return []byte{major<<5 | byte(n)}
	case n <= math.MaxUint8:
		return longHead(major, n, 0)
	case n <= math.MaxUint16:
		return longHead(major, n, 1)
	case n <= math.MaxUint32:
		return longHead(major, n, 2)
	}
	return longHead(major, n, 3)
}

// longHead answers a head of 1, 2, 4 or 8 bytes more (places 0 to 3), whether it needs so many or not.
func longHead(major byte, n uint64, place int) []byte {
	size := 1 << place
	return append([]byte{major<<5 | byte(24+place)}, binary.BigEndian.AppendUint64(nil, n)[8-size:]...)
}

// speller writes heads, one of them as it is told.
type speller struct {
	heads int // that were written
	at    int // the one that is written otherwise
	as    func(major byte, n uint64) []byte
}

func (s *speller) head(major byte, n uint64) []byte {
	s.heads++
	if s.heads-1 == s.at {
		return s.as(major, n)
	}
	return head(major, n)
}

// plainly answers a speller that writes all heads as they should be.
func plainly() *speller {
	return &speller{at: -1}
}

// pieces answers the six items of contents, whether they may be or not.
func pieces(x api.Bib, s *speller) [][]byte {
	var l [6][]byte
	l[0] = s.head(4, uint64(len(x.Targets)))
	for _, n := range x.Targets {
		l[0] = append(l[0], s.head(0, n)...)
	}
	l[1] = s.head(0, 1)
	l[2] = s.head(0, 1)
	l[3] = append(s.head(4, 2), s.head(0, uint64(x.Source.Scheme))...)
	switch {
	case x.Source.Scheme == api.Dtn && x.Source.Name == "":
		l[3] = append(l[3], s.head(0, 0)...)
	case x.Source.Scheme == api.Dtn:
		l[3] = append(append(l[3], s.head(3, uint64(len(x.Source.Name)))...), x.Source.Name...)
	default:
		l[3] = slices.Concat(l[3], s.head(4, 2), s.head(0, x.Source.Node), s.head(0, x.Source.Service))
	}
	l[4] = slices.Concat(s.head(4, 2), s.head(4, 2), s.head(0, 1), s.head(0, 5), s.head(4, 2), s.head(0, 3), s.head(0, uint64(x.Scope)))
	l[5] = s.head(4, uint64(len(x.Tags)))
	for _, tag := range x.Tags {
		l[5] = slices.Concat(l[5], s.head(4, 1), s.head(4, 2), s.head(0, 1), s.head(2, uint64(len(tag))), tag)
	}
	return l[:]
}

// wire answers the bytes of contents by the words of P10.1, whether they may be or not.
func wire(x api.Bib) []byte {
	return bytes.Join(pieces(x, plainly()), nil)
}

// right tells whether contents may be, by the words of P10.1.
func right(x api.Bib) bool {
	fine := len(x.Targets) > 0 && len(x.Targets) < 16 && len(x.Tags) == len(x.Targets)
	seen := map[uint64]int{}
	for _, n := range x.Targets {
		seen[n]++
	}
	for _, tag := range x.Tags {
		fine = fine && len(tag) == 32
	}
	return fine && len(seen) == len(x.Targets) && x.Scope >= 0 && x.Scope < 8 && eid.Node(x.Source) != ""
}

// cursor reads bytes that must be as they should.
type cursor struct {
	b     []byte
	wrong bool
}

func (c *cursor) take(n uint64) []byte {
	if n > uint64(len(c.b)) {
		c.wrong = true
		return nil
	}
	b := c.b[:n]
	c.b = c.b[n:]
	return b
}

func (c *cursor) want(l ...byte) {
	if !bytes.Equal(c.take(uint64(len(l))), l) {
		c.wrong = true
	}
}

// number reads a head of that major, and answers its number.
func (c *cursor) number(major byte) uint64 {
	was := c.b
	first := c.take(1)
	if c.wrong || first[0]>>5 != major {
		c.wrong = true
		return 0
	}
	n := uint64(first[0] & 31)
	if n > 23 {
		if n > 27 {
			c.wrong = true
			return 0
		}
		b := c.take(1 << (n - 24))
		n = binary.BigEndian.Uint64(append(make([]byte, 8-len(b)), b...))
	}
	if !bytes.HasPrefix(was, head(major, n)) {
		c.wrong = true
	}
	return n
}

func (c *cursor) source() api.Eid {
	c.want(0x82)
	switch c.number(0) {
	case 1:
		return dtn(string(c.take(c.number(3))))
	case 2:
		c.want(0x82)
		return ipn(c.number(0), c.number(0))
	}
	c.wrong = true
	return api.Eid{}
}

// modelRead tells in another way than Read what bytes are: by the words of P10.1, from the front.
func modelRead(b []byte) (api.Bib, api.Errno) {
	c := &cursor{b: b}
	var x api.Bib
	n := c.number(4)
	for i := uint64(0); i < n && !c.wrong; i++ {
		x.Targets = append(x.Targets, c.number(0))
	}
	c.want(1, 1)
	x.Source = c.source()
	c.want(0x82, 0x82, 1, 5, 0x82, 3)
	scope := c.number(0)
	x.Scope = int(scope)
	n = c.number(4)
	for i := uint64(0); i < n && !c.wrong; i++ {
		c.want(0x81, 0x82, 1, 0x58, 32)
		x.Tags = append(x.Tags, c.take(32))
	}
	if c.wrong || len(c.b) > 0 || scope > 7 || !right(x) {
		return api.Bib{}, api.ErrTarget
	}
	return x, api.OK
}

// tagOf answers a tag by the library.
func tagOf(key []byte, plain []byte) []byte {
	h := hmac.New(sha256.New, key)
	h.Write(plain)
	return h.Sum(nil)
}

// asked is all that Sign is asked with.
type asked struct {
	b       api.Bundle
	targets []uint64
	number  uint64
	scope   int
	source  api.Eid
	key     []byte
}

func (a asked) sign() (api.Bundle, api.Errno) {
	return Sign(a.b, a.targets, a.number, a.scope, a.source, a.key)
}

func (a asked) String() string {
	return fmt.Sprintf("targets %s, number %d, scope %d, source %v, key %x of %s", brief(a.targets), a.number, a.scope, a.source, a.key, brief(a.b))
}

// ask answers a question of the base: a block of number 9.
func ask(scope int, targets ...uint64) asked {
	return asked{b: base(), targets: targets, number: 9, scope: scope, source: ipn(1, 2), key: key()}
}

// must answers the bundle that is signed.
func must(t *testing.T, a asked) api.Bundle {
	t.Helper()
	got, errno := a.sign()
	if errno != api.OK {
		t.Fatalf("%v: %d", a, errno)
	}
	return got
}

// modelSign tells what P10.2 asks for, row by row of its words.
func modelSign(a asked) (api.Bundle, api.Errno) {
	x := api.Bib{Targets: a.targets, Source: a.source, Scope: a.scope}
	for _, target := range a.targets {
		plain, errno := ippt.Plain(a.b, target, a.scope, 11, a.number, 0)
		if errno != api.OK {
			return api.Bundle{}, errno
		}
		x.Tags = append(x.Tags, tagOf(a.key, plain))
	}
	if !right(x) {
		return api.Bundle{}, api.ErrTarget
	}
	return bundle.Put(a.b, api.Block{Type: 11, Number: a.number, Data: wire(x)})
}

// modelVerify tells what P10.3 asks for, row by row of its words.
func modelVerify(b api.Bundle, number uint64, key []byte) (api.Bib, api.Errno) {
	if errno := bundle.Check(b); errno != api.OK {
		return api.Bib{}, errno
	}
	for _, y := range b.Blocks {
		if y.Number != number || y.Type != 11 {
			continue
		}
		x, errno := modelRead(y.Data)
		for i, target := range x.Targets {
			plain, errno := ippt.Plain(b, target, x.Scope, 11, number, y.Flags)
			if errno != api.OK {
				return api.Bib{}, errno
			}
			if !bytes.Equal(tagOf(key, plain), x.Tags[i]) {
				return api.Bib{}, api.ErrTag
			}
		}
		return x, errno
	}
	return api.Bib{}, api.ErrTarget
}

// modelCovers tells what P10.4 asks for.
func modelCovers(b api.Bundle, target uint64) []uint64 {
	var l []uint64
	for _, y := range b.Blocks {
		x, errno := modelRead(y.Data)
		if y.Type == 11 && errno == api.OK && slices.Index(x.Targets, target) >= 0 && bundle.Check(b) == api.OK {
			l = append(l, y.Number)
		}
	}
	return l
}

// signedRight holds Sign's answer against the model's.
func signedRight(t *testing.T, a asked) api.Errno {
	t.Helper()
	want, wrong := modelSign(a)
	got, errno := a.sign()
	if errno != wrong || !same(got, want) {
		t.Fatalf("%v: %s, %d, not %s, %d", a, brief(got), errno, brief(want), wrong)
	}
	return errno
}

// verifiedRight holds Verify's answer against the model's.
func verifiedRight(t *testing.T, b api.Bundle, number uint64, key []byte) api.Errno {
	t.Helper()
	want, wrong := modelVerify(b, number, key)
	got, errno := Verify(b, number, key)
	if errno != wrong || !sameBib(got, want) {
		t.Fatalf("Verify(%s, %d, %x) = %s, %d, not %s, %d", brief(b), number, key, brief(got), errno, brief(want), wrong)
	}
	return errno
}

// verifies asks for an error of Verify, and nothing besides.
func verifies(t *testing.T, b api.Bundle, number uint64, key []byte, want api.Errno) {
	t.Helper()
	got, errno := Verify(b, number, key)
	if errno != want || errno != api.OK && !sameBib(got, api.Bib{}) {
		t.Errorf("Verify(%s, %d, %x) = %s, %d, not %d", brief(b), number, key, brief(got), errno, want)
	}
	verifiedRight(t, b, number, key)
}

// refusable answers changes that make a bundle one that may not be.
func refusable() []func(b *api.Bundle) {
	return []func(b *api.Bundle){
		func(b *api.Bundle) { *b = api.Bundle{} },
		func(b *api.Bundle) { b.Crc = 3 },
		func(b *api.Bundle) { b.Crc = -1 },
		func(b *api.Bundle) { b.Dest = dtn("") },
		func(b *api.Bundle) { b.Source = dtn("") },
		func(b *api.Bundle) { b.Source = ipn(0, 0) },
		func(b *api.Bundle) { b.Report = dtn("none") },
		func(b *api.Bundle) { b.Blocks = nil },
		func(b *api.Bundle) { b.Blocks = b.Blocks[:len(b.Blocks)-1] },
		func(b *api.Bundle) { b.Blocks = many(17) },
		func(b *api.Bundle) { b.Blocks[0].Number = 0 },
		func(b *api.Bundle) { b.Blocks[0].Number = 1 },
		func(b *api.Bundle) { b.Blocks[0].Type = 256 },
		func(b *api.Bundle) { b.Blocks[0].Crc = 3 },
		func(b *api.Bundle) { b.Blocks[0].Type = api.BlkAge },
		func(b *api.Bundle) { b.Blocks[len(b.Blocks)-1].Data = make([]byte, 4097) },
	}
}
