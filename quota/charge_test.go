package quota

import (
	"testing"

	"fairlead/api"
)

// P16.2

// of writes a quota's five numbers in a row.
func of(bytes, count, usedBytes, usedCount, refused int) api.Quota {
	return api.Quota{Bytes: bytes, Count: count, UsedBytes: usedBytes, UsedCount: usedCount, Refused: refused}
}

// TestCharge: what is charged, and what is refused for its bytes, for its count, and for both.
func TestCharge(t *testing.T) {
	for _, c := range []struct {
		q    api.Quota
		n    int
		want api.Quota
		e    api.Errno
	}{
		{of(10, 2, 0, 0, 0), 0, of(10, 2, 0, 1, 0), 0},
		{of(10, 2, 0, 0, 0), 1, of(10, 2, 1, 1, 0), 0},
		{of(10, 2, 0, 0, 0), 10, of(10, 2, 10, 1, 0), 0},
		{of(10, 2, 0, 0, 0), 11, of(10, 2, 0, 0, 1), 160},
		{of(10, 2, 0, 0, 0), most, of(10, 2, 0, 0, 1), 160},
		{of(10, 2, 6, 1, 0), 4, of(10, 2, 10, 2, 0), 0},
		{of(10, 2, 6, 1, 0), 5, of(10, 2, 6, 1, 1), 160},
		{of(10, 2, 6, 1, 5), 3, of(10, 2, 9, 2, 5), 0},
		{of(10, 2, 6, 1, 5), 5, of(10, 2, 6, 1, 6), 160},

		// Count just above UsedCount, the same, and below.
		{of(10, 3, 6, 2, 0), 4, of(10, 3, 10, 3, 0), 0},
		{of(10, 2, 6, 2, 0), 4, of(10, 2, 6, 2, 1), 160},
		{of(10, 1, 6, 2, 0), 4, of(10, 1, 6, 2, 1), 160},
		{of(10, 0, 0, 0, 0), 0, of(10, 0, 0, 0, 1), 160},
		{of(10, 1, 0, 0, 0), 0, of(10, 1, 0, 1, 0), 0},

		// Neither bytes nor count: refused once.
		{of(10, 2, 6, 2, 0), 5, of(10, 2, 6, 2, 1), 160},
		{of(0, 0, 0, 0, 0), 1, of(0, 0, 0, 0, 1), 160},

		// Just no bytes left: a bundle of none fits, while fewer are granted than used none does.
		{of(10, 5, 10, 2, 0), 0, of(10, 5, 10, 3, 0), 0},
		{of(10, 5, 10, 2, 0), 1, of(10, 5, 10, 2, 1), 160},
		{of(10, 5, 11, 2, 0), 0, of(10, 5, 11, 2, 1), 160},
		{of(10, 5, 11, 2, 0), 1, of(10, 5, 11, 2, 1), 160},
		{of(0, 5, 0, 0, 0), 0, of(0, 5, 0, 1, 0), 0},
		{of(0, 5, 1, 1, 0), 0, of(0, 5, 1, 1, 1), 160},
		{of(0, most, most, 0, 0), 0, of(0, most, most, 0, 1), 160},
		{of(0, most, most, 0, 0), most, of(0, most, most, 0, 1), 160},

		// The ends.
		{of(most, most, 0, 0, 0), most, of(most, most, most, 1, 0), 0},
		{of(most, most, 0, 0, 0), most - 1, of(most, most, most-1, 1, 0), 0},
		{of(most, most, 1, 1, 0), most, of(most, most, 1, 1, 1), 160},
		{of(most, most, 1, 1, 0), most - 1, of(most, most, most, 2, 0), 0},
		{of(most, most, most-1, most-1, 0), 1, of(most, most, most, most, 0), 0},
		{of(most, most, most-1, most-1, 0), 2, of(most, most, most-1, most-1, 1), 160},
		{of(most, most, most, most-1, 0), 0, of(most, most, most, most, 0), 0},
		{of(most, most, most, most, 0), 0, of(most, most, most, most, 1), 160},
		{of(most, most, most, most, 0), most, of(most, most, most, most, 1), 160},

		// Refused stays at its greatest, and is no reason to refuse.
		{of(10, 2, 0, 0, most-1), 11, of(10, 2, 0, 0, most), 160},
		{of(10, 2, 0, 0, most), 11, of(10, 2, 0, 0, most), 160},
		{of(10, 0, 0, 0, most), 0, of(10, 0, 0, 0, most), 160},
		{of(10, 2, 0, 0, most), 10, of(10, 2, 10, 1, most), 0},
	} {
		got, e := charges(t, c.q, c.n)
		if got != c.want || e != c.e {
			t.Errorf("Charge(%+v, %d) = %+v, %d, not %+v, %d", c.q, c.n, got, e, c.want, c.e)
		}
	}
}

// TestRelease: what is released, and what is not: more than is used, or a bundle where there is none.
func TestRelease(t *testing.T) {
	for _, c := range []struct {
		q    api.Quota
		n    int
		want api.Quota
		e    api.Errno
	}{
		{of(10, 2, 6, 1, 0), 0, of(10, 2, 6, 0, 0), 0},
		{of(10, 2, 6, 1, 0), 1, of(10, 2, 5, 0, 0), 0},
		{of(10, 2, 6, 1, 0), 6, of(10, 2, 0, 0, 0), 0},
		{of(10, 2, 6, 1, 0), 7, of(10, 2, 6, 1, 0), 2},
		{of(10, 2, 6, 1, 0), most, of(10, 2, 6, 1, 0), 2},
		{of(10, 2, 6, 2, 9), 6, of(10, 2, 0, 1, 9), 0},
		{of(10, 2, 6, 2, 9), 7, of(10, 2, 6, 2, 9), 2},

		// No bundle is used, whatever bytes are.
		{of(10, 2, 6, 0, 0), 0, of(10, 2, 6, 0, 0), 2},
		{of(10, 2, 6, 0, 0), 6, of(10, 2, 6, 0, 0), 2},
		{of(10, 2, 6, 0, 0), 7, of(10, 2, 6, 0, 0), 2},
		{of(10, 2, 0, 0, 0), 0, of(10, 2, 0, 0, 0), 2},
		{of(0, 0, 0, 0, 0), 0, of(0, 0, 0, 0, 0), 2},
		{of(0, 0, 0, 0, 0), 1, of(0, 0, 0, 0, 0), 2},

		// No bytes are used, but a bundle is.
		{of(10, 2, 0, 1, 0), 0, of(10, 2, 0, 0, 0), 0},
		{of(10, 2, 0, 1, 0), 1, of(10, 2, 0, 1, 0), 2},

		// More is used than granted: it is released all the same.
		{of(10, 2, 16, 5, 4), 6, of(10, 2, 10, 4, 4), 0},
		{of(0, 0, 16, 5, 4), 16, of(0, 0, 0, 4, 4), 0},
		{of(0, 0, 16, 5, 4), 17, of(0, 0, 16, 5, 4), 2},

		// The ends.
		{of(most, most, most, most, most), most, of(most, most, 0, most-1, most), 0},
		{of(most, most, most, most, most), most - 1, of(most, most, 1, most-1, most), 0},
		{of(most, most, most-1, most, most), most, of(most, most, most-1, most, most), 2},
		{of(0, 0, most, 1, 0), most, of(0, 0, 0, 0, 0), 0},
	} {
		got, e := releases(t, c.q, c.n)
		if got != c.want || e != c.e {
			t.Errorf("Release(%+v, %d) = %+v, %d, not %+v, %d", c.q, c.n, got, e, c.want, c.e)
		}
	}
}

// TestGrant: more and less than was granted, and less than is used.
func TestGrant(t *testing.T) {
	for _, c := range []struct {
		q            api.Quota
		bytes, count int
		want         api.Quota
	}{
		{of(0, 0, 0, 0, 0), 0, 0, of(0, 0, 0, 0, 0)},
		{of(0, 0, 0, 0, 0), 10, 2, of(10, 2, 0, 0, 0)},
		{of(10, 2, 6, 1, 3), 10, 2, of(10, 2, 6, 1, 3)},
		{of(10, 2, 6, 1, 3), 20, 4, of(20, 4, 6, 1, 3)},
		{of(10, 2, 6, 1, 3), 20, 2, of(20, 2, 6, 1, 3)},
		{of(10, 2, 6, 1, 3), 10, 4, of(10, 4, 6, 1, 3)},
		{of(10, 2, 6, 1, 3), 6, 1, of(6, 1, 6, 1, 3)},
		{of(10, 2, 6, 1, 3), 5, 0, of(5, 0, 6, 1, 3)},
		{of(10, 2, 6, 1, 3), 5, 2, of(5, 2, 6, 1, 3)},
		{of(10, 2, 6, 1, 3), 10, 0, of(10, 0, 6, 1, 3)},
		{of(10, 2, 6, 1, 3), 0, 0, of(0, 0, 6, 1, 3)},
		{of(10, 2, 6, 1, 3), most, most, of(most, most, 6, 1, 3)},
		{of(10, 2, 6, 1, 3), most - 1, 1, of(most-1, 1, 6, 1, 3)},
		{of(most, most, most, most, most), 0, 0, of(0, 0, most, most, most)},
		{of(0, 0, most, most, most), most, most, of(most, most, most, most, most)},
	} {
		got, e := grants(t, c.q, c.bytes, c.count)
		if got != c.want || e != 0 {
			t.Errorf("Grant(%+v, %d, %d) = %+v, %d, not %+v", c.q, c.bytes, c.count, got, e, c.want)
		}
	}
}

// TestLeft: what is left of bytes and of bundles, each at least none.
func TestLeft(t *testing.T) {
	for _, c := range []struct {
		q            api.Quota
		bytes, count int
	}{
		{of(0, 0, 0, 0, 0), 0, 0},
		{of(10, 2, 0, 0, 0), 10, 2},
		{of(10, 2, 6, 1, 0), 4, 1},
		{of(10, 2, 6, 1, 99), 4, 1},
		{of(10, 2, 9, 2, 0), 1, 0},
		{of(10, 2, 10, 1, 0), 0, 1},
		{of(10, 2, 10, 2, 0), 0, 0},
		{of(10, 2, 11, 1, 0), 0, 1},
		{of(10, 2, 6, 3, 0), 4, 0},
		{of(10, 2, 11, 3, 0), 0, 0},
		{of(0, 0, most, most, most), 0, 0},
		{of(most, 0, 0, most, 0), most, 0},
		{of(0, most, most, 0, 0), 0, most},
		{of(most, most, 0, 0, 0), most, most},
		{of(most, most, 1, most-1, 0), most - 1, 1},
		{of(most, most, most, most, most), 0, 0},
	} {
		bytes, count := leaves(t, c.q)
		if bytes != c.bytes || count != c.count {
			t.Errorf("Left(%+v) = %d, %d, not %d, %d", c.q, bytes, count, c.bytes, c.count)
		}
	}
}

// TestJustWhatIsLeft: of many quotas, just what is left is charged, and one byte more is not.
func TestJustWhatIsLeft(t *testing.T) {
	for _, granted := range []int{0, 1, 2, 63, 4096, most - 1, most} {
		for _, used := range []int{0, 1, 2, 62, 63, 64, 4095, 4096, 4097, most - 1, most} {
			for count := range 4 {
				for usedCount := range 4 {
					q := of(granted, count, used, usedCount, 7)
					left, bundles := leaves(t, q)
					want := api.OK
					if used > granted || usedCount >= count {
						want = api.ErrQuota
					}
					if (left > 0) != (used < granted) || (bundles > 0) != (usedCount < count) {
						t.Fatalf("Left(%+v) = %d, %d", q, left, bundles)
					}
					if got, e := charges(t, q, left); e != want {
						t.Fatalf("Charge(%+v, %d) = %+v, %d", q, left, got, e)
					}
					if left == most {
						continue // a byte more is no number that may be
					}
					got, e := charges(t, q, left+1)
					is(t, got, e, of(granted, count, used, usedCount, 8), 160)
				}
			}
		}
	}
}
