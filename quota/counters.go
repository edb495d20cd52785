package quota

import (
	"fairlead/api"
	"fairlead/num"
)

// counters answers a quota each of whose numbers is taken as the nearest one that a counter may have: of one that may be just itself.
func counters(q api.Quota) api.Quota {
	return api.Quota{
		Bytes:     counter(q.Bytes),
		Count:     counter(q.Count),
		UsedBytes: counter(q.UsedBytes),
		UsedCount: counter(q.UsedCount),
		Refused:   counter(q.Refused),
	}
}

// counter takes a number as layer 1's calls do.
func counter(n int) int {
	return num.Sum(n, 0)
}

// isCounter tells whether a number is one that a counter may have.
func isCounter(n int) bool {
	return n == counter(n)
}
