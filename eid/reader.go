package eid

import (
	"bytes"
	"strconv"
	"strings"

	"fairlead/api"
)

const (
	parts       = 2  // of an endpoint's item, and of an Ipn's numbers
	decimal     = 10 // digits that a number is written with
	numberWidth = 32 // bits that hold a number up to mostNumber
)

// read answers an item's endpoint, or why there is none. It writes what it took for one again: whatever the item has beside, or otherwise, shows there.
func read(x api.Item) (api.Eid, error) {
	e := taken(x)
	y, err := written(e)
	if err == nil && !same(x, y) {
		err = errForm
	}
	if err != nil {
		return api.Eid{}, fault{"item", err}
	}
	return e, nil
}

// taken answers the one endpoint whose item this could be, if it is anyone's.
func taken(x api.Item) api.Eid {
	if len(x.List) != parts {
		return api.Eid{}
	}
	behind := x.List[1]
	e := api.Eid{Scheme: api.Scheme(x.List[0].N), Name: string(behind.Data)}
	if len(behind.List) == parts {
		e.Node, e.Service = behind.List[0].N, behind.List[1].N
	}
	return e
}

// same holds two items against each other. It goes no deeper than the one that is less deep.
func same(x api.Item, y api.Item) bool {
	if x.Kind != y.Kind || x.N != y.N || !bytes.Equal(x.Data, y.Data) || len(x.List) != len(y.List) {
		return false
	}
	for i := range x.List {
		if !same(x.List[i], y.List[i]) {
			return false
		}
	}
	return true
}

// parsed answers a text's endpoint, or why there is none. It writes what it took for one again, as a number has more texts than its own.
func parsed(s string) (api.Eid, error) {
	e, err := spelt(s)
	if err == nil {
		err = check(e)
	}
	if err == nil && Text(e) != s {
		err = errForm
	}
	if err != nil {
		return api.Eid{}, fault{"text", err}
	}
	return e, nil
}

// spelt answers the one endpoint whose text this could be, if it is anyone's.
func spelt(s string) (api.Eid, error) {
	if s == noneText {
		return api.Eid{Scheme: api.Dtn}, nil
	}
	if name, ok := strings.CutPrefix(s, dtnAhead); ok {
		// A copy, so that the answer shares no memory with what was handed in.
		return api.Eid{Scheme: api.Dtn, Name: strings.Clone(name)}, nil
	}
	if numbers, ok := strings.CutPrefix(s, ipnAhead); ok {
		return speltNumbers(numbers)
	}
	return api.Eid{}, errScheme
}

// speltNumbers reads what stands behind the scheme of an endpoint of numbers.
func speltNumbers(s string) (api.Eid, error) {
	left, right, _ := strings.Cut(s, between)
	node, err := strconv.ParseUint(left, decimal, numberWidth)
	if err != nil {
		return api.Eid{}, errNumber
	}
	service, err := strconv.ParseUint(right, decimal, numberWidth)
	if err != nil {
		return api.Eid{}, errNumber
	}
	return api.Eid{Scheme: api.Ipn, Node: node, Service: service}, nil
}
