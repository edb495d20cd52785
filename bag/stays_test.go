package bag

import (
	"math"
	"math/rand"
	"runtime"
	"slices"
	"testing"
)

// R3, R4

// spoil changes all of a list, what is behind its end, too.
func spoil(l []int) {
	l = l[:cap(l)]
	for i := range l {
		l[i] = -77
	}
}

// TestKeysAreNewMemory: what becomes of an answer changes nothing, and what is done later changes no answer.
func TestKeysAreNewMemory(t *testing.T) {
	for n := range 20 {
		var x Table[int, int]
		var m modelTable[int, int]
		for i := range n {
			puts(t, &x, &m, i, i)
		}
		first, second := x.Keys(), x.Keys()
		spoil(first)
		holds(t, &x, &m, -77, 0, 5, 19)
		kept := slices.Clone(second)
		_ = append(second, 55)
		_ = append(second[:0], 55, 56)
		holds(t, &x, &m, 55, 56)
		copy(second, kept)
		for i := range n {
			dels(t, &x, &m, n-i-1)
			puts(t, &x, &m, n+i, 9)
			x.Keys()
			if !same(second, kept) {
				t.Fatalf("%v was changed to %v", kept, second)
			}
		}
		holds(t, &x, &m, 0, n)
	}
}

// TestListIsNewMemory: the same of a queue's.
func TestListIsNewMemory(t *testing.T) {
	for n := range 20 {
		for gone := range n + 1 {
			var q Queue[int]
			var m modelQueue[int]
			for i := range n {
				pushes(t, &q, &m, i+1, n)
			}
			for range gone {
				pops(t, &q, &m)
			}
			first, second := q.List(), q.List()
			spoil(first)
			waits(t, &q, m.list())
			kept := slices.Clone(second)
			_ = append(second, 55)
			_ = append(second[:0], 55, 56)
			waits(t, &q, m.list())
			copy(second, kept)
			for i := range n {
				pushes(t, &q, &m, 100+i, math.MaxInt)
				pops(t, &q, &m)
				q.List()
				if !same(second, kept) {
					t.Fatalf("%v was changed to %v", kept, second)
				}
			}
			waits(t, &q, m.list())
		}
	}
}

// TestThingsAreCopied: what is handed in by value is not seen to change.
func TestThingsAreCopied(t *testing.T) {
	thing := [2]int{1, 2}
	var q Queue[[2]int]
	var x Table[int, [2]int]
	q.Push(thing, 2)
	x.Put(1, thing)
	thing[0] = 9
	q.Push(thing, 2)
	q.List()[0][1] = 8
	waits(t, &q, [][2]int{{1, 2}, {9, 2}})
	v, _ := x.Get(1)
	v[0] = 7
	if again, _ := x.Get(1); again != [2]int{1, 2} {
		t.Errorf("Get(1) = %v", again)
	}
	first, _ := q.Pop()
	first[0] = 6
	waits(t, &q, [][2]int{{9, 2}})
}

// TestTwoTables know nothing of one another.
func TestTwoTables(t *testing.T) {
	c := rand.New(rand.NewSource(124))
	var xs [3]Table[int, int]
	var ms [3]modelTable[int, int]
	for range 300 {
		i, k := c.Intn(3), c.Intn(6)
		if c.Intn(2) == 0 {
			puts(t, &xs[i], &ms[i], k, c.Int())
		} else {
			dels(t, &xs[i], &ms[i], k)
		}
		for j := range xs {
			holds(t, &xs[j], &ms[j], 0, 1, 2, 3, 4, 5)
		}
	}
}

// TestTwoQueues know nothing of one another.
func TestTwoQueues(t *testing.T) {
	c := rand.New(rand.NewSource(125))
	var qs [3]Queue[int]
	var ms [3]modelQueue[int]
	for range 1000 {
		i := c.Intn(3)
		if c.Intn(3) > 0 {
			pushes(t, &qs[i], &ms[i], c.Int(), c.Intn(30))
		} else {
			pops(t, &qs[i], &ms[i])
		}
		for j := range qs {
			waits(t, &qs[j], ms[j].list())
		}
	}
}

// TestRefused: a Push that is refused, a Pop of nothing and a Del of nothing change nothing.
func TestRefused(t *testing.T) {
	for n := range 20 {
		var q Queue[int]
		for i := range n {
			q.Push(i, n)
		}
		was := q.List()
		for _, most := range []int{math.MinInt, -1, 0, n / 2, n - 1, n} {
			if most <= n && q.Push(99, most) {
				t.Fatalf("Push(99, %d) of %d is taken", most, n)
			}
			waits(t, &q, was)
		}
		for i := range n {
			if x, ok := q.Pop(); x != i || !ok {
				t.Fatalf("Pop() = %d, %v", x, ok)
			}
		}
		for range 5 {
			q.Pop()
		}
		if !q.Push(5, 1) {
			t.Fatal("Push(5, 1) is refused")
		}
		waits(t, &q, []int{5})
	}
	var x Table[int, int]
	x.Put(1, 2)
	for range 5 {
		if x.Del(2) || x.Del(0) || !same(x.Keys(), []int{1}) {
			t.Fatalf("Keys() = %v", x.Keys())
		}
	}
}

// TestNobodyIsLeft: no goroutine stays behind.
func TestNobodyIsLeft(t *testing.T) {
	was := runtime.NumGoroutine()
	var q Queue[int]
	for i := range 1000 {
		q.Push(i, 1000)
		q.List()
	}
	if is := runtime.NumGoroutine(); is > was {
		t.Errorf("%d goroutines, not %d", is, was)
	}
}
