package bag

import (
	"math"
	"testing"
)

// P12.2

func TestZeroQueue(t *testing.T) {
	var q Queue[int]
	for range 2 {
		waits(t, &q, nil)
		if x, ok := q.Pop(); x != 0 || ok {
			t.Errorf("Pop() = %d, %v", x, ok)
		}
	}
	if !q.Push(7, 1) {
		t.Error("Push of the first thing is refused")
	}
	waits(t, &q, []int{7})
	r := new(Queue[string])
	if x, ok := r.Pop(); x != "" || ok || r.Push("", 0) || !r.Push("", 1) {
		t.Error("a queue of texts is otherwise")
	}
	waits(t, r, []string{""})
}

// TestMost: below 0, of 0, of 1, as many as there are, one less and one more.
func TestMost(t *testing.T) {
	for n := range 70 {
		var q Queue[int]
		var m modelQueue[int]
		for i := range n {
			pushes(t, &q, &m, i, n)
		}
		for _, most := range []int{math.MinInt, math.MinInt + 1, math.MinInt32, -1 << 32, -2, -1, 0, 1, n / 2, n - 2, n - 1, n} {
			if most <= n {
				pushes(t, &q, &m, -1, most)
				waits(t, &q, m.list())
			}
		}
		if len(m.list()) != n {
			t.Fatalf("the model takes %d of %d", len(m.list()), n)
		}
		for i, most := range []int{n + 1, n + 3, 1 << 20, 1 << 32, math.MaxInt - 1, math.MaxInt} {
			pushes(t, &q, &m, 1000+i, most)
			waits(t, &q, m.list())
			if len(m.list()) != n+i+1 {
				t.Fatalf("the model does not take %d of %d", most, n)
			}
		}
	}
}

// TestOtherMost: with another most at each call, going up and down.
func TestOtherMost(t *testing.T) {
	var q Queue[int]
	var m modelQueue[int]
	for i := range 400 {
		pushes(t, &q, &m, i, 40-i%57)
		if i%5 == 4 {
			pops(t, &q, &m)
		}
		waits(t, &q, m.list())
	}
	for i := range 100 {
		pushes(t, &q, &m, i, i)
		waits(t, &q, m.list())
	}
}

// TestPop: of an empty queue, of the last thing, and what is pushed behind it.
func TestPop(t *testing.T) {
	for n := range 20 {
		var q Queue[int]
		var m modelQueue[int]
		for round := range 4 {
			for i := range n + round {
				pushes(t, &q, &m, 100*round+i, math.MaxInt)
			}
			for range n + round {
				waits(t, &q, m.list())
				pops(t, &q, &m)
			}
			for range 3 {
				waits(t, &q, nil)
				pops(t, &q, &m)
			}
		}
	}
}

// TestPopOfZero: a thing that is the zero value is one.
func TestPopOfZero(t *testing.T) {
	var q Queue[*int]
	for i := range 3 {
		if !q.Push(nil, i+1) {
			t.Fatalf("Push(nil, %d) is refused", i+1)
		}
	}
	for i := range 3 {
		if x, ok := q.Pop(); x != nil || !ok || q.Len() != 2-i {
			t.Fatalf("Pop() = %v, %v", x, ok)
		}
	}
	if x, ok := q.Pop(); x != nil || ok {
		t.Fatalf("Pop() = %v, %v", x, ok)
	}
}

// TestMany: many things pushed and popped in turn, each way of turning.
func TestMany(t *testing.T) {
	for _, in := range []int{1, 2, 3, 5, 100, 5000} {
		for _, out := range []int{0, 1, 2, 3, 99, 5000} {
			var q Queue[int]
			given, gone := 0, 0
			for given < 10000 {
				for range in {
					if !q.Push(given, given-gone+1) || q.Push(-1, given-gone+1) {
						t.Fatalf("Push of %d with %d gone is otherwise", given, gone)
					}
					given++
				}
				for range out {
					x, ok := q.Pop()
					if ok != (gone < given) || ok && x != gone || !ok && x != 0 {
						t.Fatalf("Pop() = %d, %v of %d, %d gone", x, ok, given, gone)
					}
					if ok {
						gone++
					}
				}
				if q.Len() != given-gone {
					t.Fatalf("Len() = %d of %d, %d gone", q.Len(), given, gone)
				}
			}
			for i, x := range q.List() {
				if x != gone+i {
					t.Fatalf("List() has %d at %d, %d gone", x, i, gone)
				}
			}
			for ; gone < given; gone++ {
				if x, ok := q.Pop(); x != gone || !ok {
					t.Fatalf("Pop() = %d, %v, %d gone", x, ok, gone)
				}
			}
			waits(t, &q, nil)
		}
	}
}

// ofThings pushes things, lists them and pops them.
func ofThings[T comparable](t *testing.T, l ...T) {
	t.Helper()
	var q Queue[T]
	var m modelQueue[T]
	for range 3 {
		for i, x := range l {
			pushes(t, &q, &m, x, i)
			pushes(t, &q, &m, x, i+1)
			if got := q.List(); len(got) != i+1 || q.Len() != i+1 || got[0] != l[0] || got[i] != x {
				t.Fatalf("%d of %d are listed", len(got), i+1)
			}
		}
		for range l {
			pops(t, &q, &m)
		}
		pops(t, &q, &m)
	}
}

func TestThingsOfAnyType(t *testing.T) {
	type row struct {
		n    int
		name string
		l    [2]bool
	}
	ofThings(t, row{}, row{1, "a", [2]bool{true, false}}, row{}, row{n: 3})
	ofThings(t, [3]string{}, [3]string{"a", "", "c"}, [3]string{2: "c"})
	ofThings(t, [0]int{}, [0]int{}, [0]int{})
	ofThings(t, struct{}{}, struct{}{})
	ofThings(t, "", "b", "a", "")
	ofThings(t, true, false, true, false, false)
	ofThings(t, -1.5, 0, math.Inf(1))
	ofThings[any](t, nil, 1, "one", nil, [1]int{1})
	a, b := 1, 1
	ofThings(t, &a, &b, nil, &a)
	ofThings(t, make(chan int), nil, make(chan int))
}

// TestGreatThings: a thing may be greater than what a channel takes by itself.
func TestGreatThings(t *testing.T) {
	type big [1 << 17]byte
	ofThings(t, big{1}, big{}, big{1<<17 - 1: 2}, big{5: 3}, big{6: 4}, big{7: 5})
}

// TestThingsThatCantBeHeldAgainstEachOther: lists, maps and functions wait in queues, too.
func TestThingsThatCantBeHeldAgainstEachOther(t *testing.T) {
	var lists Queue[[]int]
	lists.Push([]int{1, 2}, 3)
	lists.Push(nil, 3)
	lists.Push([]int{3}, 3)
	waits(t, &lists, [][]int{{1, 2}, nil, {3}})
	if x, ok := lists.Pop(); !same(x, []int{1, 2}) || !ok {
		t.Errorf("Pop() = %v, %v", x, ok)
	}
	if x, ok := lists.Pop(); x != nil || !ok {
		t.Errorf("Pop() = %v, %v", x, ok)
	}
	var calls Queue[func() int]
	for i := range 9 {
		calls.Push(func() int { return i }, 9)
	}
	for i, f := range calls.List() {
		if f() != i {
			t.Errorf("at %d waits %d", i, f())
		}
	}
	var queues Queue[*Queue[int]]
	queues.Push(new(Queue[int]), 1)
	queues.List()[0].Push(4, 1)
	inner, _ := queues.Pop()
	waits(t, inner, []int{4})
}
