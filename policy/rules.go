package policy

import (
	"iter"
	"slices"

	"fairlead/api"
	"fairlead/bib"
	"fairlead/bundle"
)

const (
	ruleCount = 6
	payload   = 1 // the number of a payload's block
)

// question is what Judge is asked.
type question struct {
	policy api.Policy
	ring   [][]byte
	bundle api.Bundle
}

// condition tells whether something holds of a question.
type condition func(q question) bool

// rule is why a bundle is refused: a word, and when it holds.
type rule struct {
	word  string
	holds condition
}

// rules answers why bundles are refused. Their order tells which one is answered where several hold, and each one stands on what those ahead of it did not refuse.
func rules() [ruleCount]rule {
	return [ruleCount]rule{
		{"policy", isNoPolicy},
		{"bundle", isNoBundle},
		{"source", isOfAnother},
		{"life", livesTooLong},
		{"unsigned", ofKey(isUnsigned)},
		{"tag", ofKey(isUntagged)},
	}
}

// codeAt answers the code of the rule at a place: accepted is told ahead of them.
func codeAt(place int) int {
	return accepted + 1 + place
}

// ofKey answers a condition that holds as another one does, but of policies with a key alone.
func ofKey(holds condition) condition {
	return func(q question) bool {
		return q.policy.Key != noKey && holds(q)
	}
}

// isNoPolicy tells whether the policy may not be.
func isNoPolicy(q question) bool {
	return !Check(q.policy, q.ring)
}

// isNoBundle tells whether the bundle may not be.
func isNoBundle(q question) bool {
	return bundle.Check(q.bundle) != api.OK
}

// isOfAnother tells whether the bundle is from nobody who may send.
func isOfAnother(q question) bool {
	return len(q.policy.Sources) > 0 && !slices.Contains(q.policy.Sources, q.bundle.Source)
}

// livesTooLong tells whether the bundle lives longer than it may.
func livesTooLong(q question) bool {
	return q.policy.Life > 0 && q.bundle.Life > q.policy.Life
}

// isUnsigned tells whether no integrity block covers the payload.
func isUnsigned(q question) bool {
	return !some(covering(q.bundle), func(uint64) bool { return true })
}

// isUntagged tells whether none of those that cover it is good enough.
func isUntagged(q question) bool {
	key, scope := q.ring[q.policy.Key], q.policy.Scope
	return !some(covering(q.bundle), func(number uint64) bool {
		x, errno := bib.Verify(q.bundle, number, key)
		return errno == api.OK && x.Scope&scope == scope
	})
}

// covering gives the numbers of the integrity blocks that cover the payload, as they stand.
func covering(b api.Bundle) iter.Seq[uint64] {
	return func(yield func(number uint64) bool) {
		for _, number := range bib.Covers(b, payload) {
			if !yield(number) {
				return
			}
		}
	}
}

// some tells whether one of what is given is as it is asked for. It asks no further than to the first: a block's tags take long to verify.
func some(l iter.Seq[uint64], ask func(number uint64) bool) bool {
	for number := range l {
		if ask(number) {
			return true
		}
	}
	return false
}
