package quota

import (
	"testing"

	"fairlead/api"
)

// P16.1

// some are quotas that may be: fresh, in use, full, with more used than granted, at the ends.
func some() []api.Quota {
	return []api.Quota{
		{},
		{Bytes: 1, Count: 1, UsedBytes: 1, UsedCount: 1, Refused: 1},
		{Bytes: 10, Count: 2},
		{Bytes: 10, Count: 2, UsedBytes: 6, UsedCount: 1, Refused: 3},
		{Bytes: 10, Count: 2, UsedBytes: 10, UsedCount: 2},
		{Bytes: 10, Count: 2, UsedBytes: 16, UsedCount: 5},
		{UsedBytes: 7, UsedCount: 3},
		{Bytes: most, Count: most},
		{Bytes: most, Count: most, UsedBytes: most, UsedCount: most, Refused: most},
		{UsedBytes: most, UsedCount: most, Refused: most},
		{Bytes: most - 1, Count: most - 1, UsedBytes: most - 1, UsedCount: most - 2, Refused: most - 1},
	}
}

// TestCheck: each of the five numbers, one at a time, at each of its edges.
func TestCheck(t *testing.T) {
	for _, good := range some() {
		if !Check(good) {
			t.Errorf("Check(%+v) = false", good)
		}
		for i := range fields(&good) {
			for _, c := range []struct {
				n    int
				want bool
			}{
				{-1 << 63, false},
				{-1 << 62, false},
				{-2, false},
				{-1, false},
				{0, true},
				{1, true},
				{2, true},
				{1 << 31, true},
				{1 << 32, true},
				{1<<62 - 1, true},
				{1 << 62, true},
				{1<<62 + 1, false},
				{1<<63 - 1, false},
			} {
				q := good
				*fields(&q)[i] = c.n
				if got := Check(q); got != c.want {
					t.Errorf("Check(%+v) = %v", q, got)
				}
			}
		}
	}
}

// TestCheckManyWrong: all sets of numbers that may not be, not one alone.
func TestCheckManyWrong(t *testing.T) {
	for wrong := range 1 << 5 {
		for _, n := range outside() {
			q := some()[3]
			for i, at := range fields(&q) {
				if wrong>>i&1 == 1 {
					*at = n
				}
			}
			if got, want := Check(q), wrong == 0; got != want {
				t.Errorf("Check(%+v) = %v", q, got)
			}
		}
	}
}

// refusesAll asks that each call refuses a quota that may not be, whatever stands beside it, and answers it as it is.
func refusesAll(t *testing.T, q api.Quota) {
	t.Helper()
	for _, n := range append(edges(), 2, q.UsedBytes, q.Bytes-q.UsedBytes) {
		got, e := Charge(q, n)
		is(t, got, e, q, 2)
		got, e = Release(q, n)
		is(t, got, e, q, 2)
		for _, count := range edges() {
			got, e = Grant(q, n, count)
			is(t, got, e, q, 2)
		}
	}
	if bytes, count := Left(q); bytes != 0 || count != 0 {
		t.Fatalf("Left(%+v) = %d, %d", q, bytes, count)
	}
}

// TestMayNotBe: a quota that may not be, for each of its numbers, to each call.
func TestMayNotBe(t *testing.T) {
	for _, good := range some() {
		for i := range fields(&good) {
			for _, n := range outside() {
				q := good
				*fields(&q)[i] = n
				refusesAll(t, q)
				for j := range fields(&q) {
					for _, m := range outside() {
						two := q
						*fields(&two)[j] = m
						refusesAll(t, two)
					}
				}
			}
		}
	}
}

// TestLeftOfWrong: one number that may not be, where the two that are asked for leave something.
func TestLeftOfWrong(t *testing.T) {
	for _, q := range []api.Quota{
		{Bytes: 10, Count: 5, Refused: -1},
		{Bytes: 10, Count: 5, Refused: most + 1},
		{Bytes: 10, Count: most + 1},
		{Bytes: most + 1, Count: 5},
		{Bytes: 10, Count: 5, UsedBytes: -1},
		{Bytes: 10, Count: 5, UsedCount: -1},
		{Bytes: 10, Count: -1},
		{Bytes: -1, Count: 5},
	} {
		if bytes, count := Left(q); bytes != 0 || count != 0 {
			t.Errorf("Left(%+v) = %d, %d", q, bytes, count)
		}
	}
}

// TestNumbersWrong: numbers that may not be, beside quotas that may.
func TestNumbersWrong(t *testing.T) {
	for _, q := range some() {
		for _, n := range outside() {
			got, e := Charge(q, n)
			is(t, got, e, q, 2)
			got, e = Release(q, n)
			is(t, got, e, q, 2)
			for _, other := range edges() {
				got, e = Grant(q, n, other)
				is(t, got, e, q, 2)
				got, e = Grant(q, other, n)
				is(t, got, e, q, 2)
			}
		}
	}
}
