package bib

import (
	"bytes"
	"math"
	"math/rand"
	"slices"
	"testing"

	"fairlead/api"
)

// P10.1

// refusedData asks that contents have no bytes.
func refusedData(t *testing.T, x api.Bib) {
	t.Helper()
	if w, errno := Data(x); errno != api.ErrTarget || len(w) != 0 {
		t.Errorf("Data(%s) = % x, %d", brief(x), w, errno)
	}
}

// refusedRead asks that bytes are no contents.
func refusedRead(t *testing.T, w []byte) {
	t.Helper()
	if x, errno := Read(w); errno != api.ErrTarget || !sameBib(x, api.Bib{}) {
		t.Errorf("Read(% .400x) = %v, %d", w, x, errno)
	}
}

// readRight holds Read's answer against the model's, and what it read against what is written.
func readRight(t *testing.T, w []byte) api.Errno {
	t.Helper()
	want, wrong := modelRead(w)
	got, errno := Read(w)
	if errno != wrong || !sameBib(got, want) {
		t.Fatalf("Read(% x) = %v, %d, not %v, %d", w, got, errno, want, wrong)
	}
	if errno == api.OK {
		if again, errno := Data(got); errno != api.OK || !bytes.Equal(again, w) {
			t.Fatalf("% x is written as % x, %d", w, again, errno)
		}
	}
	return errno
}

// byHand is contents, and their bytes, put together by hand.
type byHand struct {
	x api.Bib
	w string
}

const (
	tagA = "00010203 04050607 08090a0b 0c0d0e0f 10111213 14151617 18191a1b 1c1d1e1f"
	tagB = "ffffffff ffffffff ffffffff ffffffff ffffffff ffffffff ffffffff ffffffff"
	tagC = "81820158 20818201 58208182 01582081 82015820 81820158 20818201 58208182"
)

func contentsByHand(t *testing.T) []byHand {
	a, b, c := unhex(t, tagA), unhex(t, tagB), unhex(t, tagC)
	return []byHand{
		{
			api.Bib{Targets: []uint64{1}, Source: ipn(1, 2), Scope: 7, Tags: [][]byte{a}},
			"81 01  01  01  82 02 82 01 02  82 82 01 05 82 03 07  81 81 82 01 5820" + tagA,
		},
		{
			api.Bib{Targets: []uint64{0}, Source: ipn(1, 0), Scope: 0, Tags: [][]byte{b}},
			"81 00  01  01  82 02 82 01 00  82 82 01 05 82 03 00  81 81 82 01 5820" + tagB,
		},
		{
			api.Bib{Targets: []uint64{1, 0, 300}, Source: dtn("//a/b"), Scope: 4, Tags: [][]byte{b, c, a}},
			"83 01 00 19012c  01  01  82 01 65 2f2f612f62  82 82 01 05 82 03 04  83 81 82 01 5820" + tagB + "81 82 01 5820" + tagC + "81 82 01 5820" + tagA,
		},
		{
			api.Bib{Targets: []uint64{23, 24}, Source: ipn(300, 70000), Scope: 3, Tags: [][]byte{a, a}},
			"82 17 1818  01  01  82 02 82 19012c 1a00011170  82 82 01 05 82 03 03  82 81 82 01 5820" + tagA + "81 82 01 5820" + tagA,
		},
		{
			api.Bib{Targets: []uint64{math.MaxUint64}, Source: dtn("//node.of-24_letters-01/"), Scope: 1, Tags: [][]byte{c}},
			"81 1bffffffffffffffff  01  01  82 01 7818 2f2f6e6f64652e6f662d32345f6c6574746572732d30312f  82 82 01 05 82 03 01  81 81 82 01 5820" + tagC,
		},
	}
}

func TestDataByHand(t *testing.T) {
	for _, c := range contentsByHand(t) {
		want := unhex(t, c.w)
		if w, errno := Data(c.x); errno != api.OK || !bytes.Equal(w, want) {
			t.Errorf("Data(%v) = % x, %d, not % x", c.x, w, errno, want)
		}
		if x, errno := Read(want); errno != api.OK || !sameBib(x, c.x) {
			t.Errorf("Read(% x) = %v, %d, not %v", want, x, errno, c.x)
		}
		if !bytes.Equal(wire(c.x), want) {
			t.Errorf("the tests' own writer: % x, not % x", wire(c.x), want)
		}
	}
}

// TestOfAll: what is written of contents is as the words of P10.1 say, and is read as what it was.
func TestOfAll(t *testing.T) {
	for _, x := range all() {
		want := wire(x)
		if w, errno := Data(x); errno != api.OK || !bytes.Equal(w, want) {
			t.Errorf("Data(%s) = % x, %d, not % x", brief(x), w, errno, want)
		}
		if y, errno := Read(want); errno != api.OK || !sameBib(x, y) {
			t.Errorf("Read(% x) = %s, %d", want, brief(y), errno)
		}
	}
}

// TestOfNones: what may not be has no bytes, and bytes that would be its are not read.
func TestOfNones(t *testing.T) {
	for _, x := range nones() {
		refusedData(t, x)
		refusedRead(t, wire(x))
	}
	for _, source := range odd() {
		refusedData(t, changed(made(1, 2), func(x *api.Bib) { x.Source = source }))
	}
	// All that is wrong at once is one error.
	refusedData(t, api.Bib{Targets: []uint64{1, 1}, Source: dtn(""), Scope: 8, Tags: [][]byte{{1}}})
}

// TestOfCounts asks of numbers of targets and of tags.
func TestOfCounts(t *testing.T) {
	for targets := range 18 {
		for tags := range 18 {
			x := made(1, targets)
			x.Tags = made(1, tags).Tags
			_, errno := Data(x)
			_, again := Read(wire(x))
			want := api.ErrTarget
			if targets == tags && targets > 0 && targets < 16 {
				want = api.OK
			}
			if errno != want || again != want {
				t.Errorf("%d targets, %d tags: %d, %d, not %d", targets, tags, errno, again, want)
			}
		}
	}
	// As many as there may be in all.
	x := made(1, 1<<20)
	refusedData(t, x)
	refusedData(t, api.Bib{Targets: make([]uint64, 1<<23), Source: ipn(1, 2), Tags: [][]byte{row(32, 1)}})
	refusedData(t, api.Bib{Targets: []uint64{1}, Source: ipn(1, 2), Tags: make([][]byte, 1<<23)})
	refusedData(t, api.Bib{Targets: []uint64{1}, Source: ipn(1, 2), Tags: [][]byte{make([]byte, 1<<23)}})
}

func TestOfScopes(t *testing.T) {
	for scope := -300; scope < 600; scope++ {
		x := changed(made(1, 1), func(x *api.Bib) { x.Scope = scope })
		_, errno := Data(x)
		_, again := Read(wire(x))
		want := api.ErrTarget
		if scope >= 0 && scope <= 7 {
			want = api.OK
		}
		if errno != want || again != want {
			t.Errorf("scope %d: %d, %d, not %d", scope, errno, again, want)
		}
	}
}

// few answers contents of each form that a change may do something to, not too many.
func few(t *testing.T) []api.Bib {
	l := []api.Bib{made(1, 15), made(math.MaxUint64-1, 2)}
	for _, c := range contentsByHand(t) {
		l = append(l, c.x)
	}
	return l
}

// TestReadOfTurnedBytes puts each other byte in each place: never is it read as what it was, and as something else just where that has these bytes.
func TestReadOfTurnedBytes(t *testing.T) {
	told := map[api.Errno]int{}
	for _, x := range few(t) {
		w := wire(x)
		for i := range w {
			was := w[i]
			for turn := 1; turn < 256; turn++ {
				// Of long ones but a bit is turned: each target's place is like the other's.
				if len(w) > 200 && turn&(turn-1) != 0 {
					continue
				}
				w[i] = was ^ byte(turn)
				errno := readRight(t, w)
				told[errno]++
				if got, _ := Read(w); sameBib(got, x) {
					t.Fatalf("% x is read as what % x is", w, wire(x))
				}
			}
			w[i] = was
		}
	}
	if told[api.OK] < 1000 || told[api.ErrTarget] < 1000 {
		t.Errorf("told: %v", told)
	}
}

// TestReadOfCutBytes: of contents that end too soon, or too late, nothing is read.
func TestReadOfCutBytes(t *testing.T) {
	for _, x := range all() {
		w := wire(x)
		for n := range w {
			refusedRead(t, w[:n])
			refusedRead(t, w[n+1:])
		}
		for c := range 256 {
			refusedRead(t, append(bytes.Clone(w), byte(c)))
			refusedRead(t, append([]byte{byte(c)}, w...))
		}
		refusedRead(t, append(bytes.Clone(w), w...))
	}
	refusedRead(t, nil)
	refusedRead(t, []byte{})
}

// TestReadOfBytesBetween puts a byte more, and a byte less, in each place.
func TestReadOfBytesBetween(t *testing.T) {
	for _, x := range few(t) {
		w := wire(x)
		for i := range w {
			readRight(t, slices.Delete(bytes.Clone(w), i, i+1))
			for _, c := range []byte{0, 1, 0x81, 0x9f, 0xff} {
				readRight(t, slices.Insert(bytes.Clone(w), i, c))
			}
		}
	}
}

// orders answers all orders of the numbers below n.
func orders(n int) [][]int {
	if n == 0 {
		return [][]int{nil}
	}
	var l [][]int
	for _, order := range orders(n - 1) {
		for i := range n {
			l = append(l, slices.Insert(slices.Clone(order), i, n-1))
		}
	}
	return l
}

// TestReadOfOtherOrders: the six items are read in their order alone.
func TestReadOfOtherOrders(t *testing.T) {
	for _, x := range few(t) {
		l := pieces(x, plainly())
		for _, order := range orders(6) {
			var w []byte
			for _, i := range order {
				w = append(w, l[i]...)
			}
			// The second and the third item are alike.
			if bytes.Equal(w, wire(x)) {
				continue
			}
			refusedRead(t, w)
			readRight(t, w)
		}
		for i := range l {
			refusedRead(t, bytes.Join(slices.Delete(slices.Clone(l), i, i+1), nil))
			for _, more := range [][]byte{{0}, {1}, {0x40}, {0x80}, {0xa0}, {0xf6}, l[i]} {
				refusedRead(t, bytes.Join(slices.Insert(slices.Clone(l), i, more), nil))
			}
			for _, other := range [][]byte{{}, {0}, {2}, {0x18, 1}, {0x41, 1}, {0x61, 0x31}, {0x80}, {0x81, 0x40}, {0x9f, 0xff}, {0x9f, 1, 0xff}, {0xa0}, {0xf6}, {0xff}} {
				refusedRead(t, bytes.Join(slices.Replace(slices.Clone(l), i, i+1, other), nil))
			}
		}
		// As one array, or one of bytes.
		refusedRead(t, append([]byte{0x86}, wire(x)...))
		refusedRead(t, slices.Concat([]byte{0x9f}, wire(x), []byte{0xff}))
		refusedRead(t, slices.Concat(head(2, uint64(len(wire(x)))), wire(x)))
	}
}

// TestReadOfLongHeads: no head is read that is longer than need be.
func TestReadOfLongHeads(t *testing.T) {
	for _, x := range all() {
		s := plainly()
		pieces(x, s)
		for at := range s.heads {
			for place := range 4 {
				w := bytes.Join(pieces(x, &speller{at: at, as: func(major byte, n uint64) []byte {
					return longHead(major, n, place)
				}}), nil)
				// A long one may be the one that is needed, or hold less than the number.
				if !bytes.Equal(w, wire(x)) {
					if errno := readRight(t, w); errno == api.OK && len(w) > len(wire(x)) {
						t.Errorf("% x is read", w)
					}
				}
			}
		}
	}
}

// TestReadOfOtherHeads writes each head with another number, or another major: what is not a target, the source or the scope is read in one way only.
func TestReadOfOtherHeads(t *testing.T) {
	told := map[api.Errno]int{}
	for _, x := range few(t) {
		s := plainly()
		pieces(x, s)
		for at := range s.heads {
			for _, other := range append(edges(), 2, 3, 4, 5, 6, 7, 8, 9, 15, 16, 31, 32, 33, 263, 1<<32+7, 1<<63+7) {
				told[readRight(t, bytes.Join(pieces(x, &speller{at: at, as: func(major byte, n uint64) []byte {
					return head(major, other)
				}}), nil))]++
			}
			for other := range byte(8) {
				w := bytes.Join(pieces(x, &speller{at: at, as: func(major byte, n uint64) []byte {
					return head(other, n)
				}}), nil)
				if !bytes.Equal(w, wire(x)) {
					refusedRead(t, w)
				}
			}
		}
	}
	if told[api.OK] < 100 || told[api.ErrTarget] < 100 {
		t.Errorf("told: %v", told)
	}
}

// TestReadOfFixedNumbers puts other numbers in the places of 1, 5 and 3.
func TestReadOfFixedNumbers(t *testing.T) {
	const source = "82 02 82 01 02"
	for _, c := range []struct{ ahead, behind string }{
		{"81 01", "01" + source + "82 82 01 05 82 03 07 81 81 82 01 5820" + tagA},
		{"81 01 01", source + "82 82 01 05 82 03 07 81 81 82 01 5820" + tagA},
		{"81 01 01 01" + source + "82 82", "05 82 03 07 81 81 82 01 5820" + tagA},
		{"81 01 01 01" + source + "82 82 01", "82 03 07 81 81 82 01 5820" + tagA},
		{"81 01 01 01" + source + "82 82 01 05 82", "07 81 81 82 01 5820" + tagA},
		{"81 01 01 01" + source + "82 82 01 05 82 03 07 81 81 82", "5820" + tagA},
	} {
		read := 0
		for _, n := range append(edges(), 2, 3, 4, 5, 6, 7, 8, 9, 10, 11) {
			w := slices.Concat(unhex(t, c.ahead), head(0, n), unhex(t, c.behind))
			if readRight(t, w) == api.OK {
				read++
			}
		}
		if read != 1 {
			t.Errorf("%s .. %s: %d numbers are read", c.ahead, c.behind, read)
		}
	}
}

// TestReadOfOtherForms: arrays of another length, endless ones, and parameters and results of other forms.
func TestReadOfOtherForms(t *testing.T) {
	const (
		ahead  = "81 01 01 01 82 02 82 01 02"
		params = "82 82 01 05 82 03 07"
		result = "81 81 82 01 5820" + tagA
	)
	if errno := readRight(t, unhex(t, ahead+params+result)); errno != api.OK {
		t.Fatalf("%s is refused: %d", ahead+params+result, errno)
	}
	for _, w := range []string{
		// Targets.
		"01 01 01 82 02 82 01 02" + params + result,
		"80 01 01 82 02 82 01 02" + params + "80",
		"9f 01 ff 01 01 82 02 82 01 02" + params + result,
		"81 81 01 01 01 82 02 82 01 02" + params + result,
		"81 41 01 01 01 82 02 82 01 02" + params + result,
		"82 01 01 01 01 82 02 82 01 02" + params + "82 81 82 01 5820" + tagA + "81 82 01 5820" + tagA,
		// The source.
		"81 01 01 01 82 01 00" + params + result,
		"81 01 01 01 82 01 60" + params + result,
		"81 01 01 01 82 01 64 6e6f6e65" + params + result,
		"81 01 01 01 82 01 44 2f2f612f" + params + result,
		"81 01 01 01 82 02 82 00 00" + params + result,
		"81 01 01 01 82 03 82 01 02" + params + result,
		"81 01 01 01 82 02 9f 01 02 ff" + params + result,
		"81 01 01 01 9f 02 82 01 02 ff" + params + result,
		"81 01 01 01 83 02 82 01 02 00" + params + result,
		"81 01 01 01 82 02 83 01 02 00" + params + result,
		"81 01 01 01 82 02 82 01 1b0000000100000000" + params + result,
		"81 01 01 01 67 69706e3a312e32" + params + result,
		// Parameters.
		ahead + "80" + result,
		ahead + "81 82 01 05" + result,
		ahead + "81 82 03 07" + result,
		ahead + "82 82 03 07 82 01 05" + result,
		ahead + "83 82 01 05 82 03 07 82 03 07" + result,
		ahead + "83 82 01 05 82 03 07 80" + result,
		ahead + "82 83 01 05 00 82 03 07" + result,
		ahead + "82 82 01 05 83 03 07 00" + result,
		ahead + "82 82 01 05 81 03" + result,
		ahead + "82 81 01 82 03 07" + result,
		ahead + "82 82 01 05 82 03 41 07" + result,
		ahead + "82 82 01 05 82 03 81 07" + result,
		ahead + "82 82 01 41 05 82 03 07" + result,
		ahead + "84 01 05 03 07" + result,
		ahead + "9f 82 01 05 82 03 07 ff" + result,
		ahead + "82 9f 01 05 ff 82 03 07" + result,
		ahead + "82 82 01 05 9f 03 07 ff" + result,
		ahead + "82 82 01 06 82 03 07" + result,
		ahead + "82 82 01 07 82 03 07" + result,
		ahead + "82 82 01 05 82 03 08" + result,
		ahead + "82 82 01 05 82 03 1b8000000000000007" + result,
		ahead + "82 82 01 05 82 03 1b0000000100000007" + result,
		ahead + "82 82 01 05 82 03 20" + result,
		// Results.
		ahead + params + "80",
		ahead + params + "81 80",
		ahead + params + "81 81 80",
		ahead + params + "81 81 81 01",
		ahead + params + "81 81 81 5820" + tagA,
		ahead + params + "81 82 01 5820" + tagA,
		ahead + params + "81 5820" + tagA,
		ahead + params + "5820" + tagA,
		ahead + params + "81 82 82 01 5820" + tagA + "82 01 5820" + tagA,
		ahead + params + "81 81 83 01 5820" + tagA + "00",
		ahead + params + "81 81 82 01 7820" + tagC,
		ahead + params + "81 81 82 01 581f" + tagA[:len(tagA)-2],
		ahead + params + "81 81 82 01 5821" + tagA + "20",
		ahead + params + "81 81 82 01 40",
		ahead + params + "81 81 82 5820" + tagA + "01",
		ahead + params + "9f 81 82 01 5820" + tagA + "ff",
		ahead + params + "81 9f 82 01 5820" + tagA + "ff",
		ahead + params + "81 81 9f 01 5820" + tagA + "ff",
		ahead + params + "82 81 82 01 5820" + tagA + "81 82 01 5820" + tagA,
	} {
		refusedRead(t, unhex(t, w))
		readRight(t, unhex(t, w))
	}
}

// TestReadEnds: it ends on bytes of any kind, long ones too.
func TestReadEnds(t *testing.T) {
	for c := range 256 {
		for _, size := range []int{1, 2, 3, 6, 7, 100, 4096, 4097, 1 << 16} {
			refusedRead(t, bytes.Repeat([]byte{byte(c)}, size))
		}
	}
	for _, c := range []byte{0, 0x40, 0x81, 0x9f, 0xff} {
		refusedRead(t, bytes.Repeat([]byte{c}, 1<<23))
	}
	for _, ahead := range [][]byte{head(4, math.MaxUint64), head(4, 4096), head(2, math.MaxUint64), head(2, math.MaxInt64), wire(made(1, 15))} {
		refusedRead(t, append(bytes.Clone(ahead), make([]byte, 1<<20)...))
	}
	c := rand.New(rand.NewSource(10))
	for range 20000 {
		readRight(t, row(c.Intn(80), c.Int()))
	}
}

// chance answers contents that may be or not.
func chance(c *rand.Rand) api.Bib {
	x := made(uint64(c.Intn(3)), 1+c.Intn(4))
	if c.Intn(10) == 0 {
		x = made(1, c.Intn(18))
	}
	x.Scope = c.Intn(8)
	x.Source = sources()[c.Intn(len(sources()))]
	if c.Intn(10) == 0 {
		x.Scope = c.Intn(40) - 20
	}
	if c.Intn(10) == 0 {
		x.Source = noSources()[c.Intn(len(noSources()))]
	}
	for range c.Intn(3) {
		if len(x.Targets) > 0 {
			x.Targets[c.Intn(len(x.Targets))] = edges()[c.Intn(len(edges()))]
		}
	}
	if len(x.Tags) > 0 && c.Intn(10) == 0 {
		x.Tags[c.Intn(len(x.Tags))] = row(30+c.Intn(5), c.Int())
	}
	if len(x.Tags) > 0 && c.Intn(10) == 0 {
		x.Tags = x.Tags[1:]
	}
	return x
}

// TestAgainstModel holds Data and Read against the model, of contents that may be, or nearly so, and of bytes that are changed.
func TestAgainstModel(t *testing.T) {
	c := rand.New(rand.NewSource(101))
	told, read := map[api.Errno]int{}, map[api.Errno]int{}
	for range 40000 {
		x := chance(c)
		w, errno := Data(x)
		told[errno]++
		if right(x) != (errno == api.OK) || errno != api.OK && errno != api.ErrTarget {
			t.Fatalf("Data(%s): %d", brief(x), errno)
		}
		if errno == api.OK && !bytes.Equal(w, wire(x)) || errno != api.OK && len(w) != 0 {
			t.Fatalf("Data(%s) = % x, %d", brief(x), w, errno)
		}
		w = wire(x)
		for range c.Intn(3) {
			at := c.Intn(len(w))
			switch c.Intn(4) {
			case 0:
				w[at] ^= 1 << c.Intn(8)
			case 1:
				w = slices.Insert(w, at, byte(c.Intn(256)))
			case 2:
				w = slices.Delete(w, at, at+1)
			case 3:
				w[at] = byte(c.Intn(256))
			}
		}
		read[readRight(t, w)]++
	}
	for _, l := range []map[api.Errno]int{told, read} {
		if l[api.OK] < 5000 || l[api.ErrTarget] < 5000 || len(l) != 2 {
			t.Errorf("told: %v", l)
		}
	}
}
