package bag

import "cmp"

// place is where a key's value stands in the map. A key that is no number does not equal itself: by itself it would stand there once more at each Put, and never be found. All such keys are one, as they are in package cmp's order.
type place[K cmp.Ordered] struct {
	key      K
	noNumber bool
}

func placeOf[K cmp.Ordered](k K) place[K] {
	if k != k {
		return place[K]{noNumber: true}
	}
	return place[K]{key: k}
}

// entry is a value with its key as it was put last: of keys that are no numbers, and of 0 and -0, a place does not tell which it was.
type entry[K cmp.Ordered, V any] struct {
	key   K
	value V
}
