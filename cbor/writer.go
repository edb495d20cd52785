package cbor

import "fairlead/api"

// check tells why an item may not be written. It goes through all of it, as what is no item at all is told ahead of what is too deep; the lists that are not at their end stand in a row, as items may stand deeper in one another than calls can.
func check(x api.Item) error {
	open := [][]api.Item{{x}}
	parts, deepest := 0, 0
	for len(open) > 0 {
		last := len(open) - 1
		if len(open[last]) == 0 {
			open = open[:last]
			continue
		}
		y := open[last][0]
		open[last] = open[last][1:]
		parts++
		if !fits(y) {
			return fault{api.ErrArg}
		}
		if isArray(y) {
			open = append(open, y.List)
			deepest = max(deepest, last+1)
		}
	}
	if deepest > api.MaxDepth || parts > api.MaxParts {
		return fault{api.ErrDeep}
	}
	return nil
}

// fits tells whether an item has a kind, and but the fields of it. The items of its list are not asked.
func fits(x api.Item) bool {
	switch x.Kind {
	case api.ItemUint:
		return len(x.Data) == 0 && len(x.List) == 0
	case api.ItemBytes:
		return x.N == 0 && len(x.List) == 0
	case api.ItemText:
		return x.N == 0 && len(x.List) == 0 && plain(x.Data)
	case api.ItemArray, api.ItemEndless:
		return x.N == 0 && len(x.Data) == 0
	}
	return false
}

// isArray tells whether an item is an array of either kind.
func isArray(x api.Item) bool {
	return x.Kind == api.ItemArray || x.Kind == api.ItemEndless
}

// plain tells whether a text may have these bytes.
func plain(b []byte) bool {
	for _, c := range b {
		if c < firstPlain || c > lastPlain {
			return false
		}
	}
	return true
}

// write puts an item that check has passed behind b. A kind's number is its major, but of endless arrays.
func write(b []byte, x api.Item) []byte {
	switch x.Kind {
	case api.ItemUint:
		return append(b, Head(int(x.Kind), x.N)...)
	case api.ItemBytes, api.ItemText:
		b = append(b, Head(int(x.Kind), uint64(len(x.Data)))...)
		return append(b, x.Data...)
	case api.ItemEndless:
		b = writeAll(append(b, beginByte), x.List)
		return append(b, endByte)
	}
	b = append(b, Head(int(x.Kind), uint64(len(x.List)))...)
	return writeAll(b, x.List)
}

// writeAll puts items behind b.
func writeAll(b []byte, l []api.Item) []byte {
	for _, x := range l {
		b = write(b, x)
	}
	return b
}
