package quota

import (
	"math/rand"
	"testing"

	"fairlead/api"
)

// P16.3, and rows of calls

// TestChargedAndReleased: what is charged and released leaves the quota.
func TestChargedAndReleased(t *testing.T) {
	leavesIt := func(q api.Quota, n int) {
		full, e := Charge(q, n)
		if e != 0 {
			return
		}
		if full == q {
			t.Fatalf("Charge(%+v, %d) changes nothing", q, n)
		}
		got, e := Release(full, n)
		is(t, got, e, q, 0)
	}
	each(edges(), func(q api.Quota) {
		for _, n := range edges() {
			leavesIt(q, n)
		}
	})
	c := rand.New(rand.NewSource(161))
	for range 20000 {
		q := of(c.Intn(most+1), c.Intn(most+1), c.Intn(most+1), c.Intn(most+1), c.Intn(most+1))
		leavesIt(q, c.Intn(q.Bytes+1))
		bytes, _ := Left(q)
		leavesIt(q, bytes)
	}
}

// TestReleasedAndCharged: what is released fits again, where no more is used than granted.
func TestReleasedAndCharged(t *testing.T) {
	c := rand.New(rand.NewSource(162))
	for range 20000 {
		bytes, count := c.Intn(most+1), 1+c.Intn(most)
		q := of(bytes, count, c.Intn(bytes+1), 1+c.Intn(count), c.Intn(most+1))
		n := c.Intn(q.UsedBytes + 1)
		less, e := releases(t, q, n)
		if e != 0 {
			t.Fatalf("Release(%+v, %d): %d", q, n, e)
		}
		got, e := Charge(less, n)
		is(t, got, e, q, 0)
	}
}

// held is the model of a row of calls: the bundles that are there, and how many were refused.
type held struct {
	bytes, count int
	bundles      []int
	refused      int
}

func (h *held) used() int {
	n := 0
	for _, b := range h.bundles {
		n += b
	}
	return n
}

// quota is what the quota must be then.
func (h *held) quota() api.Quota {
	return of(h.bytes, h.count, h.used(), len(h.bundles), h.refused)
}

// charges does a Charge of both, and answers the quota then.
func (h *held) charges(t *testing.T, q api.Quota, n int) api.Quota {
	t.Helper()
	fits := h.used()+n <= h.bytes && len(h.bundles)+1 <= h.count
	got, e := Charge(q, n)
	if !fits {
		h.refused++
		is(t, got, e, h.quota(), 160)
		return got
	}
	h.bundles = append(h.bundles, n)
	is(t, got, e, h.quota(), 0)
	if got.UsedBytes > got.Bytes || got.UsedCount > got.Count {
		t.Fatalf("more is charged than granted: %+v", got)
	}
	return got
}

// releases lets go of a bundle that is there.
func (h *held) releases(t *testing.T, q api.Quota, i int) api.Quota {
	t.Helper()
	n := h.bundles[i]
	h.bundles = append(h.bundles[:i:i], h.bundles[i+1:]...)
	got, e := Release(q, n)
	is(t, got, e, h.quota(), 0)
	return got
}

// grants grants other numbers.
func (h *held) grants(t *testing.T, q api.Quota, bytes, count int) api.Quota {
	t.Helper()
	h.bytes, h.count = bytes, count
	got, e := Grant(q, bytes, count)
	is(t, got, e, h.quota(), 0)
	return got
}

// wrong does a call that may not be, which changes nothing.
func (h *held) wrong(t *testing.T, c *rand.Rand, q api.Quota) {
	t.Helper()
	n := outside()[c.Intn(4)]
	got, e := Charge(q, n)
	is(t, got, e, h.quota(), 2)
	got, e = Release(q, n)
	is(t, got, e, h.quota(), 2)
	got, e = Grant(q, n, c.Intn(9))
	is(t, got, e, h.quota(), 2)
	got, e = Grant(q, c.Intn(9), n)
	is(t, got, e, h.quota(), 2)
	got, e = Release(q, h.used()+1+c.Intn(9))
	is(t, got, e, h.quota(), 2)
}

// step does one call of chance, of bundles of up to so many bytes.
func (h *held) step(t *testing.T, c *rand.Rand, q api.Quota, long int) api.Quota {
	t.Helper()
	switch k := c.Intn(12); {
	case k < 6:
		return h.charges(t, q, c.Intn(long+1))
	case k < 9 && len(h.bundles) > 0:
		return h.releases(t, q, c.Intn(len(h.bundles)))
	case k == 9:
		return h.grants(t, q, c.Intn(8*long+1), c.Intn(9))
	case k == 10:
		h.wrong(t, c, q)
		return q
	}
	bytes, _ := Left(q)
	return h.charges(t, q, bytes+c.Intn(2))
}

// TestRowsOfChance: from a fresh quota on, what is held is what was charged less what was released, and no Charge goes beyond what is granted.
func TestRowsOfChance(t *testing.T) {
	c := rand.New(rand.NewSource(163))
	for range 2000 {
		long := []int{0, 1, 3, 100, 4096, 1 << 40}[c.Intn(6)]
		h := &held{}
		q := h.grants(t, api.Quota{}, c.Intn(8*long+1), c.Intn(9))
		for range 60 {
			q = h.step(t, c, q, long)
			if !Check(q) {
				t.Fatalf("%+v may not be", q)
			}
			leaves(t, q)
		}
		for len(h.bundles) > 0 {
			q = h.releases(t, q, c.Intn(len(h.bundles)))
		}
		if q.UsedBytes != 0 || q.UsedCount != 0 {
			t.Fatalf("all is released: %+v", q)
		}
	}
}

// TestStaysOne: what calls answer of a quota that may be may be, too, at all the edges.
func TestStaysOne(t *testing.T) {
	each([]int{0, 1, most - 1, most}, func(q api.Quota) {
		for _, n := range edges() {
			charged, _ := Charge(q, n)
			released, _ := Release(q, n)
			if !Check(charged) || !Check(released) {
				t.Fatalf("of %+v and %d: %+v, %+v", q, n, charged, released)
			}
			for _, count := range edges() {
				if granted, _ := Grant(q, n, count); !Check(granted) {
					t.Fatalf("Grant(%+v, %d, %d) = %+v", q, n, count, granted)
				}
			}
		}
	})
}

// TestRefusedIsCounted: each refusal is one more, up to the greatest number, where it stays; what fits then is charged as before.
func TestRefusedIsCounted(t *testing.T) {
	q := of(5, 1, 0, 0, most-3)
	for _, want := range []int{most - 2, most - 1, most, most, most} {
		got, e := Charge(q, 6)
		is(t, got, e, of(5, 1, 0, 0, want), 160)
		q = got
	}
	got, e := Charge(q, 5)
	is(t, got, e, of(5, 1, 5, 1, most), 0)
	got, e = Release(got, 5)
	is(t, got, e, q, 0)
	got, e = Grant(q, 6, 1)
	is(t, got, e, of(6, 1, 0, 0, most), 0)
}

// TestGrantThenCharge: what was refused fits behind a greater grant, and behind a lesser one nothing does until enough is released.
func TestGrantThenCharge(t *testing.T) {
	q, e := Charge(of(10, 2, 8, 2, 0), 2)
	is(t, q, e, of(10, 2, 8, 2, 1), 160)
	q, e = Grant(q, 10, 3)
	is(t, q, e, of(10, 3, 8, 2, 1), 0)
	q, e = Charge(q, 2)
	is(t, q, e, of(10, 3, 10, 3, 1), 0)
	q, e = Grant(q, 4, 3)
	is(t, q, e, of(4, 3, 10, 3, 1), 0)
	q, e = Release(q, 2)
	is(t, q, e, of(4, 3, 8, 2, 1), 0)
	q, e = Charge(q, 0)
	is(t, q, e, of(4, 3, 8, 2, 2), 160)
	q, e = Release(q, 4)
	is(t, q, e, of(4, 3, 4, 1, 2), 0)
	q, e = Charge(q, 1)
	is(t, q, e, of(4, 3, 4, 1, 3), 160)
	q, e = Charge(q, 0)
	is(t, q, e, of(4, 3, 4, 2, 3), 0)
}
