package bag

import (
	"math"
	"testing"
)

// P12.3

func TestNilTable(t *testing.T) {
	var x *Table[string, int]
	for range 3 {
		for _, k := range []string{"", "a", "b"} {
			if x.Put(k, 0) || x.Put(k, 7) || x.Put(k, 7) {
				t.Errorf("Put(%q) tells that it had a value", k)
			}
			if v, has := x.Get(k); v != 0 || has {
				t.Errorf("Get(%q) = %d, %v", k, v, has)
			}
			if x.Del(k) {
				t.Errorf("Del(%q) tells that it had a value", k)
			}
		}
		if got := x.Keys(); len(got) != 0 {
			t.Errorf("Keys() = %v", got)
		}
	}
	if v, has := (*Table[int, []string])(nil).Get(1); v != nil || has {
		t.Errorf("Get(1) = %v, %v", v, has)
	}
	if v, has := (*Table[float64, [2]int])(nil).Get(math.NaN()); v != [2]int{} || has {
		t.Errorf("Get of what is no number = %v, %v", v, has)
	}
}

func TestNilQueue(t *testing.T) {
	var q *Queue[int]
	for range 3 {
		for _, most := range []int{math.MinInt, -1, 0, 1, 2, math.MaxInt} {
			if q.Push(7, most) {
				t.Errorf("Push(7, %d) tells that it was pushed", most)
			}
		}
		if x, ok := q.Pop(); x != 0 || ok {
			t.Errorf("Pop() = %d, %v", x, ok)
		}
		waits(t, q, nil)
	}
	if x, ok := (*Queue[*int])(nil).Pop(); x != nil || ok {
		t.Errorf("Pop() = %v, %v", x, ok)
	}
	if x, ok := (*Queue[[3]string])(nil).Pop(); x != [3]string{} || ok {
		t.Errorf("Pop() = %v, %v", x, ok)
	}
}

// TestNilKeepsNothing: what is done to a table or a queue that is nil is not seen in others.
func TestNilKeepsNothing(t *testing.T) {
	var none *Table[int, int]
	var empty Table[int, int]
	none.Put(1, 1)
	if got := empty.Keys(); len(got) != 0 {
		t.Errorf("Keys() = %v", got)
	}
	empty.Put(2, 2)
	if v, has := none.Get(2); v != 0 || has || len(none.Keys()) != 0 {
		t.Errorf("Get(2) = %d, %v", v, has)
	}
	var gone *Queue[int]
	var q Queue[int]
	gone.Push(1, 9)
	waits(t, &q, nil)
	q.Push(2, 9)
	waits(t, gone, nil)
	waits(t, &q, []int{2})
}
