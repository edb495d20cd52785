package bag

import (
	"cmp"
	"fmt"
	"slices"
	"testing"
)

// pair is a key and its value, in a table of the model.
type pair[K cmp.Ordered, V any] struct {
	k K
	v V
}

// modelTable is a second model of a table: all that was ever done to it, the last thing last.
type modelTable[K cmp.Ordered, V any] struct {
	done []pair[K, *V] // nil: deleted
}

func (m *modelTable[K, V]) get(k K) (v V, has bool) {
	for i := len(m.done) - 1; i >= 0; i-- {
		if cmp.Compare(m.done[i].k, k) == 0 {
			if m.done[i].v == nil {
				return v, false
			}
			return *m.done[i].v, true
		}
	}
	return v, false
}

func (m *modelTable[K, V]) put(k K, v V) bool {
	_, had := m.get(k)
	m.done = append(m.done, pair[K, *V]{k, &v})
	return had
}

func (m *modelTable[K, V]) del(k K) bool {
	_, had := m.get(k)
	m.done = append(m.done, pair[K, *V]{k, nil})
	return had
}

// keys puts each key that has a value at its place among those that are there.
func (m *modelTable[K, V]) keys() []K {
	var l []K
	for _, d := range m.done {
		if _, has := m.get(d.k); !has {
			continue
		}
		at := 0
		for at < len(l) && cmp.Less(l[at], d.k) {
			at++
		}
		if at == len(l) || cmp.Less(d.k, l[at]) {
			l = slices.Insert(l, at, d.k)
		}
	}
	return l
}

// same tells whether two lists have the same in the same order; a list that is nil is an empty one.
func same[T any](a, b []T) bool {
	return len(a) == len(b) && fmt.Sprint(a) == fmt.Sprint(b)
}

// holds asks a table for all its keys, and for the values of some.
func holds[K cmp.Ordered, V comparable](t *testing.T, x *Table[K, V], m *modelTable[K, V], asked ...K) {
	t.Helper()
	if got, want := x.Keys(), m.keys(); !same(got, want) {
		t.Fatalf("Keys() = %v, not %v", got, want)
	}
	for _, k := range asked {
		v, has := x.Get(k)
		if want, had := m.get(k); v != want || has != had {
			t.Fatalf("Get(%v) = %v, %v, not %v, %v", k, v, has, want, had)
		}
	}
}

// puts puts into a table and into its model.
func puts[K cmp.Ordered, V comparable](t *testing.T, x *Table[K, V], m *modelTable[K, V], k K, v V) {
	t.Helper()
	if got, want := x.Put(k, v), m.put(k, v); got != want {
		t.Fatalf("Put(%v, %v) = %v, not %v", k, v, got, want)
	}
}

// dels deletes from a table and from its model.
func dels[K cmp.Ordered, V comparable](t *testing.T, x *Table[K, V], m *modelTable[K, V], k K) {
	t.Helper()
	if got, want := x.Del(k), m.del(k); got != want {
		t.Fatalf("Del(%v) = %v, not %v", k, got, want)
	}
}

// modelQueue is a second model of a queue: all that it was ever given, and how many it gave.
type modelQueue[T any] struct {
	given []T
	gone  int
}

func (m *modelQueue[T]) push(x T, most int) bool {
	if most <= 0 || most <= len(m.list()) {
		return false
	}
	m.given = append(m.given, x)
	return true
}

func (m *modelQueue[T]) pop() (x T, ok bool) {
	if len(m.list()) == 0 {
		return x, false
	}
	m.gone++
	return m.given[m.gone-1], true
}

func (m *modelQueue[T]) list() []T {
	return m.given[m.gone:]
}

// waits asks a queue for all that is in it.
func waits[T any](t *testing.T, q *Queue[T], want []T) {
	t.Helper()
	if got := q.Len(); got != len(want) {
		t.Fatalf("Len() = %d, not %d", got, len(want))
	}
	if got := q.List(); !same(got, want) {
		t.Fatalf("List() = %v, not %v", got, want)
	}
}

// pushes pushes into a queue and into its model.
func pushes[T comparable](t *testing.T, q *Queue[T], m *modelQueue[T], x T, most int) {
	t.Helper()
	was := len(m.list())
	if got, want := q.Push(x, most), m.push(x, most); got != want {
		t.Fatalf("Push(%v, %d) = %v of %d", x, most, got, was)
	}
}

// pops pops from a queue and from its model.
func pops[T comparable](t *testing.T, q *Queue[T], m *modelQueue[T]) {
	t.Helper()
	x, ok := q.Pop()
	if want, had := m.pop(); x != want || ok != had {
		t.Fatalf("Pop() = %v, %v, not %v, %v", x, ok, want, had)
	}
}

// TestExample is the chapter's.
func TestExample(t *testing.T) {
	var x Table[int, string]
	if x.Put(3, "a") || x.Put(1, "b") || !x.Put(3, "c") {
		t.Error("Put tells otherwise whether a key had a value")
	}
	if got := x.Keys(); !same(got, []int{1, 3}) {
		t.Errorf("Keys() = %v", got)
	}
	if v, has := x.Get(3); v != "c" || !has {
		t.Errorf("Get(3) = %q, %v", v, has)
	}
}
