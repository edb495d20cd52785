package quota

import (
	"testing"

	"fairlead/api"
)

// R4, R8

// all answers what every call answers of a quota and a number.
func all(q api.Quota, n int) [9]any {
	charged, chargeE := Charge(q, n)
	released, releaseE := Release(q, n)
	granted, grantE := Grant(q, n, n)
	bytes, count := Left(q)
	return [9]any{Check(q), charged, chargeE, released, releaseE, granted, grantE, bytes, count}
}

// TestHandedInStays: what is handed in is not changed, and the same call answers the same again, whatever was called between.
func TestHandedInStays(t *testing.T) {
	for _, q := range append(some(), of(-1, 2, 3, 4, 5), of(1, 2, 3, 4, most+1)) {
		for _, n := range edges() {
			was := q
			first := all(q, n)
			all(of(10, 2, 6, 1, 0), 4)
			if second := all(q, n); second != first || q != was {
				t.Fatalf("%+v, %d: %v, then %v", was, n, first, second)
			}
		}
	}
}

// TestSeveralAtOnce: calls at one time know nothing of one another.
func TestSeveralAtOnce(t *testing.T) {
	done := make(chan bool)
	for i := range 8 {
		go func() {
			ok := true
			q := of(100, 10, 0, 0, i)
			for range 1000 {
				full, e := Charge(q, i)
				ok = ok && e == 0 && full == of(100, 10, i, 1, i)
				back, e := Release(full, i)
				ok = ok && e == 0 && back == q
			}
			done <- ok
		}()
	}
	for range 8 {
		if !<-done {
			t.Error("a call knows of another one")
		}
	}
}
