package quota

import (
	"math"
	"testing"

	"fairlead/api"
)

// most is the greatest number of a quota, as the chapter tells it.
const most = 1 << 62

// edges are the numbers at and beside the ends of a quota's numbers, and of an int.
func edges() []int {
	return []int{math.MinInt, -1, 0, 1, most - 1, most, most + 1, math.MaxInt}
}

// outside are those of them that no quota has.
func outside() []int {
	return []int{math.MinInt, -1, most + 1, math.MaxInt}
}

// fields answers the places of a quota's five numbers.
func fields(q *api.Quota) [5]*int {
	return [5]*int{&q.Bytes, &q.Count, &q.UsedBytes, &q.UsedCount, &q.Refused}
}

// each hands over every quota whose five numbers are out of a list.
func each(l []int, do func(api.Quota)) {
	for _, bytes := range l {
		for _, count := range l {
			for _, usedBytes := range l {
				for _, usedCount := range l {
					for _, refused := range l {
						do(api.Quota{Bytes: bytes, Count: count, UsedBytes: usedBytes, UsedCount: usedCount, Refused: refused})
					}
				}
			}
		}
	}
}

// The model: the chapter's words, told otherwise. Two numbers of a quota together are below 2^64, so sums are reckoned there.

func modelMay(q api.Quota, more ...int) bool {
	for _, n := range append([]int{q.Bytes, q.Count, q.UsedBytes, q.UsedCount, q.Refused}, more...) {
		if n < 0 || n > 1<<62 {
			return false
		}
	}
	return true
}

func modelCharge(q api.Quota, n int) (api.Quota, api.Errno) {
	if !modelMay(q, n) {
		return q, 2
	}
	bytes, count := uint64(q.UsedBytes)+uint64(n), uint64(q.UsedCount)+1
	if bytes > uint64(q.Bytes) || count > uint64(q.Count) {
		if q.Refused != 1<<62 {
			q.Refused++
		}
		return q, 160
	}
	return api.Quota{Bytes: q.Bytes, Count: q.Count, UsedBytes: int(bytes), UsedCount: int(count), Refused: q.Refused}, 0
}

func modelRelease(q api.Quota, n int) (api.Quota, api.Errno) {
	if !modelMay(q, n) || uint64(n) > uint64(q.UsedBytes) || q.UsedCount < 1 {
		return q, 2
	}
	return api.Quota{Bytes: q.Bytes, Count: q.Count, UsedBytes: q.UsedBytes - n, UsedCount: q.UsedCount - 1, Refused: q.Refused}, 0
}

func modelGrant(q api.Quota, bytes int, count int) (api.Quota, api.Errno) {
	if !modelMay(q, bytes, count) {
		return q, 2
	}
	return api.Quota{Bytes: bytes, Count: count, UsedBytes: q.UsedBytes, UsedCount: q.UsedCount, Refused: q.Refused}, 0
}

func modelLeft(q api.Quota) (int, int) {
	if !modelMay(q) {
		return 0, 0
	}
	bytes, count := 0, 0
	if q.Bytes > q.UsedBytes {
		bytes = q.Bytes - q.UsedBytes
	}
	if q.Count > q.UsedCount {
		count = q.Count - q.UsedCount
	}
	return bytes, count
}

// is asks for a quota and an error, all five numbers and no other.
func is(t *testing.T, got api.Quota, e api.Errno, want api.Quota, wantE api.Errno) {
	if got != want || e != wantE {
		t.Helper()
		t.Fatalf("%+v, %d, not %+v, %d", got, e, want, wantE)
	}
}

func charges(t *testing.T, q api.Quota, n int) (api.Quota, api.Errno) {
	t.Helper()
	got, e := Charge(q, n)
	if want, wantE := modelCharge(q, n); got != want || e != wantE {
		t.Fatalf("Charge(%+v, %d) = %+v, %d, not %+v, %d", q, n, got, e, want, wantE)
	}
	return got, e
}

func releases(t *testing.T, q api.Quota, n int) (api.Quota, api.Errno) {
	t.Helper()
	got, e := Release(q, n)
	if want, wantE := modelRelease(q, n); got != want || e != wantE {
		t.Fatalf("Release(%+v, %d) = %+v, %d, not %+v, %d", q, n, got, e, want, wantE)
	}
	return got, e
}

func grants(t *testing.T, q api.Quota, bytes int, count int) (api.Quota, api.Errno) {
	t.Helper()
	got, e := Grant(q, bytes, count)
	if want, wantE := modelGrant(q, bytes, count); got != want || e != wantE {
		t.Fatalf("Grant(%+v, %d, %d) = %+v, %d, not %+v, %d", q, bytes, count, got, e, want, wantE)
	}
	return got, e
}

func leaves(t *testing.T, q api.Quota) (int, int) {
	t.Helper()
	bytes, count := Left(q)
	if wantBytes, wantCount := modelLeft(q); bytes != wantBytes || count != wantCount {
		t.Fatalf("Left(%+v) = %d, %d, not %d, %d", q, bytes, count, wantBytes, wantCount)
	}
	return bytes, count
}

// TestExample: the chapter's example.
func TestExample(t *testing.T) {
	q, e := Charge(api.Quota{Bytes: 10, Count: 2}, 6)
	is(t, q, e, api.Quota{Bytes: 10, Count: 2, UsedBytes: 6, UsedCount: 1}, 0)
	q, e = Charge(q, 6)
	is(t, q, e, api.Quota{Bytes: 10, Count: 2, UsedBytes: 6, UsedCount: 1, Refused: 1}, 160)
}

// TestEdgesTogether: all five numbers, and those that are handed in with them, at all their edges at once.
func TestEdgesTogether(t *testing.T) {
	each(edges(), func(q api.Quota) {
		if got, want := Check(q), modelMay(q); got != want {
			t.Fatalf("Check(%+v) = %v", q, got)
		}
		leaves(t, q)
		for _, n := range edges() {
			charges(t, q, n)
			releases(t, q, n)
			for _, count := range edges() {
				grants(t, q, n, count)
			}
		}
	})
}

// TestSmallTogether: all quotas of small numbers, with each small number: what is used is below, at and above what is granted.
func TestSmallTogether(t *testing.T) {
	small := []int{0, 1, 2, 3}
	each(small, func(q api.Quota) {
		if !Check(q) {
			t.Fatalf("Check(%+v) = false", q)
		}
		leaves(t, q)
		for n := -1; n <= 5; n++ {
			charges(t, q, n)
			releases(t, q, n)
			for count := -1; count <= 5; count++ {
				grants(t, q, n, count)
			}
		}
	})
}

// TestGreatTogether: the same of numbers just below the greatest one, beside small ones.
func TestGreatTogether(t *testing.T) {
	great := []int{0, 2, most - 2, most - 1, most}
	each(great, func(q api.Quota) {
		if !Check(q) {
			t.Fatalf("Check(%+v) = false", q)
		}
		leaves(t, q)
		for _, n := range append(great, 1, 3, most-3) {
			charges(t, q, n)
			releases(t, q, n)
			grants(t, q, n, most-n)
		}
	})
}
