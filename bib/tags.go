package bib

import (
	"fairlead/api"
	"fairlead/bundle"
	"fairlead/hmac"
	"fairlead/ippt"
)

const madeFlags = 0 // of the blocks that Sign makes

// tagsOf answers the tags of targets for a block of that number, or why there are none.
func tagsOf(b api.Bundle, targets []uint64, number uint64, scope int, key []byte) ([][]byte, error) {
	var tags [][]byte
targets:
	for i, target := range targets {
		plain, errno := ippt.Plain(b, target, scope, api.BlkBib, number, madeFlags)
		switch {
		case errno != api.OK:
			return nil, fault{"a target to sign", cause(errno)}
		case i == mostTargets:
			// So many are refused with the number that Plain has for a target that is none: what is behind need not be asked.
			break targets
		}
		tags = append(tags, hmac.Tag(key, plain))
	}
	return tags, nil
}

// accepted answers what the integrity block of that number holds, or why it is not accepted.
func accepted(b api.Bundle, number uint64, key []byte) (api.Bib, error) {
	if errno := bundle.Check(b); errno != api.OK {
		return api.Bib{}, fault{"the bundle", cause(errno)}
	}
	at := bundle.Find(b, number)
	if at < 0 {
		return api.Bib{}, none("a number of no block")
	}
	x, err := contents(b.Blocks[at])
	if err != nil {
		return api.Bib{}, err
	}
	if err := checkTags(b, b.Blocks[at], x, key); err != nil {
		return api.Bib{}, err
	}
	return x, nil
}

// checkTags tells why a block that holds x is not accepted: the first target that is none, or whose tag is wrong.
func checkTags(b api.Bundle, y api.Block, x api.Bib, key []byte) error {
	for i, target := range x.Targets {
		plain, errno := ippt.Plain(b, target, x.Scope, y.Type, y.Number, y.Flags)
		if errno != api.OK {
			return fault{"a target to verify", cause(errno)}
		}
		if !hmac.Verify(key, x.Tags[i], plain) {
			return fault{"a target to verify", errTag}
		}
	}
	return nil
}
