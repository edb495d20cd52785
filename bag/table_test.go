package bag

import (
	"cmp"
	"math"
	"math/rand"
	"slices"
	"strings"
	"testing"
)

// P12.1

func TestZeroTable(t *testing.T) {
	var x Table[int, string]
	for range 2 {
		if v, has := x.Get(0); v != "" || has {
			t.Errorf("Get(0) = %q, %v", v, has)
		}
		if x.Del(0) || x.Del(1) {
			t.Error("Del tells of a key that has no value")
		}
		if got := x.Keys(); len(got) != 0 {
			t.Errorf("Keys() = %v", got)
		}
	}
	if x.Put(0, "") || !x.Put(0, "") {
		t.Error("Put tells otherwise whether a key had a value")
	}
	y := new(Table[string, []int])
	if v, has := y.Get(""); v != nil || has || y.Put("", nil) || !y.Put("", nil) {
		t.Error("a table of texts is otherwise")
	}
}

// TestPut: of a key that has a value and of one that has none, of a zero value, of a key that was deleted.
func TestPut(t *testing.T) {
	var x Table[int, int]
	var m modelTable[int, int]
	for _, k := range []int{5, 5, 0, 0, -5, 5, 0, -5} {
		for _, v := range []int{7, 0, 0, 8} {
			puts(t, &x, &m, k, v)
			holds(t, &x, &m, -6, -5, -1, 0, 1, 5, 6)
		}
		dels(t, &x, &m, k)
		holds(t, &x, &m, -5, 0, 5)
		puts(t, &x, &m, k, 0)
		holds(t, &x, &m, -5, 0, 5)
	}
}

// TestDel: of a key that has no value, of the last one, of one that has the zero value, of one twice.
func TestDel(t *testing.T) {
	for n := range 6 {
		for k := -1; k <= n; k++ {
			var x Table[int, int]
			var m modelTable[int, int]
			for i := range n {
				puts(t, &x, &m, i, i)
			}
			for range 2 {
				dels(t, &x, &m, k)
				holds(t, &x, &m, -1, 0, 1, 2, 3, 4, 5)
			}
			for i := range n {
				dels(t, &x, &m, i)
				holds(t, &x, &m, -1, 0, 1, 2, 3, 4, 5)
			}
			dels(t, &x, &m, k)
			puts(t, &x, &m, k, 9)
			holds(t, &x, &m, -1, 0, 1, 2, 3, 4, 5)
		}
	}
}

// TestGet: a key that has the zero value has one; one that has none answers the zero value.
func TestGet(t *testing.T) {
	type row struct {
		n int
		l [2]string
	}
	var x Table[string, row]
	x.Put("zero", row{})
	x.Put("one", row{1, [2]string{"a", "b"}})
	for k, want := range map[string]row{"zero": {}, "one": {1, [2]string{"a", "b"}}} {
		if v, has := x.Get(k); v != want || !has {
			t.Errorf("Get(%q) = %v, %v", k, v, has)
		}
	}
	for _, k := range []string{"", "zer", "zeroo", "One", "two"} {
		if v, has := x.Get(k); v != (row{}) || has {
			t.Errorf("Get(%q) = %v, %v", k, v, has)
		}
	}
	x.Del("one")
	if v, has := x.Get("one"); v != (row{}) || has {
		t.Errorf("Get of what was deleted = %v, %v", v, has)
	}
	if got := x.Keys(); !same(got, []string{"zero"}) {
		t.Errorf("asking puts keys: %v", got)
	}
}

// everyOrder calls do with each order of a row.
func everyOrder(l []int, do func(l []int)) {
	if len(l) == 0 {
		do(nil)
		return
	}
	for i, first := range l {
		everyOrder(slices.Delete(slices.Clone(l), i, i+1), func(rest []int) {
			do(append([]int{first}, rest...))
		})
	}
}

// TestKeys: of no key, of one, of some in each order.
func TestKeys(t *testing.T) {
	keys := []int{math.MinInt, -1, 0, 1, 10, 9, math.MaxInt}
	for n := range len(keys) {
		rising := slices.Sorted(slices.Values(keys[:n]))
		everyOrder(keys[:n], func(l []int) {
			var x Table[int, int]
			for _, k := range l {
				x.Put(k, k)
			}
			if got := x.Keys(); !same(got, rising) {
				t.Fatalf("of %v Keys() = %v", l, got)
			}
		})
	}
}

// TestManyKeys: put in rising, falling and mixed order, and deleted in another one.
func TestManyKeys(t *testing.T) {
	c := rand.New(rand.NewSource(121))
	for _, n := range []int{1, 2, 7, 8, 9, 64, 1000, 5000} {
		rising := make([]int, n)
		for i := range rising {
			rising[i] = 3*i - n
		}
		falling := slices.Clone(rising)
		slices.Reverse(falling)
		mixed := slices.Clone(rising)
		c.Shuffle(n, func(i, j int) { mixed[i], mixed[j] = mixed[j], mixed[i] })
		orders := [][]int{rising, falling, mixed}
		for i, l := range orders {
			var x Table[int, int]
			for _, k := range l {
				if x.Put(k, -k) {
					t.Fatalf("Put(%d) tells that it had a value", k)
				}
			}
			if got := x.Keys(); !slices.Equal(got, rising) {
				t.Fatalf("Keys() = %v of %d", got, n)
			}
			for at, k := range orders[(i+1)%3] {
				if v, has := x.Get(k); v != -k || !has || !x.Del(k) || x.Del(k) {
					t.Fatalf("of %d: %d, %v", k, v, has)
				}
				if at < 10 && len(x.Keys()) != n-at-1 {
					t.Fatalf("%d keys of %d, %d deleted", len(x.Keys()), n, at+1)
				}
			}
			if got := x.Keys(); len(got) != 0 {
				t.Fatalf("Keys() = %v", got)
			}
		}
	}
}

type (
	ownNumber int8
	ownText   string
)

// ofKeys puts keys that rise, in falling order, asks for each, and deletes each second one.
func ofKeys[K cmp.Ordered](t *testing.T, rising ...K) {
	t.Helper()
	var x Table[K, int]
	var m modelTable[K, int]
	for i, k := range slices.Backward(rising) {
		holds(t, &x, &m, k)
		puts(t, &x, &m, k, i)
		puts(t, &x, &m, k, -i)
	}
	holds(t, &x, &m, rising...)
	if got := x.Keys(); !same(got, rising) {
		t.Errorf("Keys() = %v, not %v", got, rising)
	}
	for i, k := range rising {
		if i%2 == 0 {
			dels(t, &x, &m, k)
		}
		holds(t, &x, &m, rising...)
	}
}

func TestKeysOfAnyType(t *testing.T) {
	ofKeys(t, math.MinInt, -256, -1, 0, 1, 255, 256, math.MaxInt)
	ofKeys[int8](t, -128, -1, 0, 1, 127)
	ofKeys[int16](t, math.MinInt16, -1, 0, 1, math.MaxInt16)
	ofKeys[int32](t, math.MinInt32, -1, 0, 'a', math.MaxInt32)
	ofKeys[int64](t, math.MinInt64, math.MinInt32, -1, 0, 1, math.MaxInt32+1, math.MaxInt64)
	ofKeys[uint](t, 0, 1, math.MaxInt, math.MaxInt+1, math.MaxUint)
	ofKeys[uint8](t, 0, 1, 127, 128, 255)
	ofKeys[uint16](t, 0, 255, 256, math.MaxUint16)
	ofKeys[uint32](t, 0, math.MaxInt32, math.MaxInt32+1, math.MaxUint32)
	ofKeys[uint64](t, 0, 1, math.MaxInt64, math.MaxInt64+1, math.MaxUint64)
	ofKeys[uintptr](t, 0, 1, 1<<32, 1<<63)
	ofKeys(t, "", "\x00", "10", "9", "A", "a", "a\x00", "a\x00b", "aa", "b", "é", "\xff", "\xff\xfe", strings.Repeat("\xff", 5000))
	ofKeys[ownNumber](t, -128, -5, 0, 5, 127)
	ofKeys[ownText](t, "", "dtn://a/", "dtn://b/", "ipn:1.2", "ipn:12.0")
}

// TestFloatKeys: what is no number is one key, ahead of all; 0 and -0 are one.
func TestFloatKeys(t *testing.T) {
	nan := math.NaN()
	ofKeys(t, nan, math.Inf(-1), -1.5, 0, math.SmallestNonzeroFloat64, 1, math.MaxFloat64, math.Inf(1))
	ofKeys(t, float32(nan), float32(math.Inf(-1)), -1.5, 0, 1, math.MaxFloat32)
	ofKeys(t, math.Inf(-1), 0)
	var x Table[float64, string]
	other := math.Float64frombits(math.Float64bits(nan) ^ 6)
	if x.Put(nan, "a") || !x.Put(other, "b") || !x.Put(nan, "c") {
		t.Error("Put of what is no number tells otherwise whether it had a value")
	}
	if v, has := x.Get(other); v != "c" || !has || len(x.Keys()) != 1 {
		t.Errorf("%q, %v, %v", v, has, x.Keys())
	}
	if v, has := x.Get(0); v != "" || has || x.Del(0) {
		t.Errorf("Get(0) = %q, %v", v, has)
	}
	if x.Put(0, "d") || !x.Put(math.Copysign(0, -1), "e") || len(x.Keys()) != 2 {
		t.Error("0 and -0 are not one")
	}
	if v, has := x.Get(0); v != "e" || !has {
		t.Errorf("Get(0) = %q, %v", v, has)
	}
	if !x.Del(other) || x.Del(nan) || len(x.Keys()) != 1 {
		t.Error("Del of what is no number leaves it")
	}
	if !x.Del(0) || x.Del(math.Copysign(0, -1)) || len(x.Keys()) != 0 {
		t.Error("Del of 0 leaves it")
	}
}

// TestFloatKeysAsPut: of keys that are one the one is told that was put last.
func TestFloatKeysAsPut(t *testing.T) {
	nan := math.Float64bits(math.NaN())
	for _, alike := range [][]uint64{{0, 1 << 63, 0, 1 << 63}, {nan, nan ^ 2, nan ^ 6, nan | 1<<63, nan}} {
		var x Table[float64, int]
		for _, b := range alike {
			x.Put(math.Float64frombits(b), 1)
			if got := x.Keys(); len(got) != 1 || math.Float64bits(got[0]) != b {
				t.Errorf("Keys() = %v, not %x", got, b)
			}
		}
	}
}

// TestValuesOfAnyType: values of all kinds are given back as they were put.
func TestValuesOfAnyType(t *testing.T) {
	type big [70000]byte
	var bigs Table[int, big]
	bigs.Put(1, big{5, 69999: 6})
	if v, has := bigs.Get(1); v != (big{5, 69999: 6}) || !has {
		t.Error("a great array is otherwise")
	}
	if v, has := bigs.Get(2); v != (big{}) || has {
		t.Error("a great array is there")
	}
	n := 7
	var pointers Table[string, *int]
	pointers.Put("n", &n)
	pointers.Put("nil", nil)
	if v, has := pointers.Get("n"); v != &n || !has {
		t.Error("a pointer is otherwise")
	}
	if v, has := pointers.Get("nil"); v != nil || !has {
		t.Error("a pointer that is nil has no value")
	}
	var anys Table[int, any]
	for i, v := range []any{nil, 0, "", [1]int{1}, error(nil)} {
		anys.Put(i, v)
		if got, has := anys.Get(i); got != v || !has {
			t.Errorf("Get(%d) = %v, %v", i, got, has)
		}
	}
	var nothings Table[uint8, struct{}]
	if nothings.Put(200, struct{}{}) || !nothings.Put(200, struct{}{}) || !same(nothings.Keys(), []uint8{200}) {
		t.Error("a table of nothings is otherwise")
	}
	var tables Table[int, *Table[int, int]]
	tables.Put(1, new(Table[int, int]))
	inner, _ := tables.Get(1)
	inner.Put(2, 3)
	if again, _ := tables.Get(1); !same(again.Keys(), []int{2}) {
		t.Error("a table in a table is otherwise")
	}
	var calls Table[int, func() int]
	calls.Put(1, func() int { return n })
	if f, has := calls.Get(1); !has || f() != 7 {
		t.Error("a function is otherwise")
	}
	if f, has := calls.Get(2); has || f != nil {
		t.Error("a function is there")
	}
}
