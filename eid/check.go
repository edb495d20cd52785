package eid

import (
	"strings"

	"fairlead/api"
)

const (
	mostNumber = 1<<32 - 1 // the greatest number of a node, or of a service
	slash      = "/"
	nodeAhead  = slash + slash // stands ahead of a node's letters in a name
)

// check tells why an endpoint may not be.
func check(e api.Eid) error {
	switch e.Scheme {
	case api.Dtn:
		return checkDtn(e)
	case api.Ipn:
		return checkIpn(e)
	}
	return errScheme
}

// checkDtn tells why an endpoint of a name may not be.
func checkDtn(e api.Eid) error {
	if e.Node != 0 || e.Service != 0 {
		return errNumber
	}
	if e.Name != "" && !isName(e.Name) {
		return errName
	}
	return nil
}

// checkIpn tells why an endpoint of numbers may not be.
func checkIpn(e api.Eid) error {
	if e.Name != "" {
		return errName
	}
	if e.Node == 0 || e.Node > mostNumber || e.Service > mostNumber {
		return errNumber
	}
	return nil
}

// isName tells whether a text names somebody.
func isName(s string) bool {
	if len(s) > api.MaxName {
		return false
	}
	rest, begins := strings.CutPrefix(s, nodeAhead)
	node, service, ends := strings.Cut(rest, slash)
	if !begins || !ends || node == "" {
		return false
	}
	return only(node, isLetter) && only(service, or(isLetter, slash))
}

// only tells whether a text has no byte but those that ask is true of.
func only(s string, ask func(c byte) bool) bool {
	for i := range len(s) {
		if !ask(s[i]) {
			return false
		}
	}
	return true
}

// or answers what asks likewise, and is true of the bytes of more, too.
func or(ask func(c byte) bool, more string) func(c byte) bool {
	return func(c byte) bool {
		return ask(c) || strings.IndexByte(more, c) >= 0
	}
}

// isLetter tells whether a byte is a letter of names.
func isLetter(c byte) bool {
	switch {
	case 'a' <= c && c <= 'z', '0' <= c && c <= '9':
		return true
	}
	return c == '.' || c == '-' || c == '_'
}
