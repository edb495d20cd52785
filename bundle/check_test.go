package bundle

import (
	"errors"
	"testing"

	"fairlead/api"
)

// P6.1

func TestCheck(t *testing.T) {
	for _, b := range all() {
		if errno := Check(b); errno != api.OK {
			t.Errorf("%s may be: %d", brief(b), errno)
		}
	}
}

func TestCheckRefuses(t *testing.T) {
	for _, c := range wrongs() {
		if b := with(base(), c.change); Check(b) != api.ErrBundle {
			t.Errorf("%s: %d of %s", c.name, Check(b), brief(b))
		}
	}
	if errno := Check(api.Bundle{}); errno != api.ErrBundle {
		t.Errorf("nothing at all: %d", errno)
	}
}

// TestCheckOfFragments: a fragment is told first, whatever else is wrong.
func TestCheckOfFragments(t *testing.T) {
	fragment := func(b *api.Bundle) { b.Flags |= api.FlagFragment }
	for _, b := range append(all(), refusable()...) {
		if errno := Check(with(b, fragment)); errno != api.ErrFrag {
			t.Errorf("%d of the fragment %s", errno, brief(b))
		}
	}
	for _, flags := range []uint64{1, 3, 5, 0x4001, 0x74007, 1<<64 - 1} {
		if errno := Check(with(base(), func(b *api.Bundle) { b.Flags = flags })); errno != api.ErrFrag {
			t.Errorf("%d of flags %x", errno, flags)
		}
	}
}

// TestCheckOfFlags asks each two flags, of bundles from someone and from no one.
func TestCheckOfFlags(t *testing.T) {
	refused := func(bit int) bool { return bit == 14 || bit == 16 || bit == 17 || bit == 18 }
	for i := range 64 {
		for j := range 64 {
			b := with(base(), func(b *api.Bundle) { b.Flags = 1<<i | 1<<j })
			want := api.OK
			if i == 0 || j == 0 {
				want = api.ErrFrag
			}
			if errno := Check(b); errno != want {
				t.Errorf("%d of flags %x", errno, b.Flags)
			}
			b.Source = dtn("")
			if want == api.OK && (i != 2 && j != 2 || refused(i) || refused(j)) {
				want = api.ErrBundle
			}
			if errno := Check(b); errno != want {
				t.Errorf("%d of flags %x from no one", errno, b.Flags)
			}
		}
	}
}

// TestCheckOfTypes: of each type but four there may be several.
func TestCheckOfTypes(t *testing.T) {
	for typ := range uint64(256) {
		b := with(base(), func(b *api.Bundle) {
			b.Blocks = many(4)
			b.Blocks[0].Type, b.Blocks[2].Type = typ, typ
		})
		want := api.OK
		switch typ {
		case 0, 1, 6, 7, 10:
			want = api.ErrBundle
		}
		if errno := Check(b); errno != want {
			t.Errorf("%d of two of type %d", errno, typ)
		}
	}
}

// TestCheckOfManyBlocks: a great row of blocks is no bundle's, and is told at once.
func TestCheckOfManyBlocks(t *testing.T) {
	b := base()
	b.Blocks = make([]api.Block, 1<<20)
	if errno := Check(b); errno != api.ErrBundle {
		t.Error(errno)
	}
}

// TestCheckOfContents: what Data is of is not asked, nor whether all is too long.
func TestCheckOfContents(t *testing.T) {
	b := with(base(), func(b *api.Bundle) {
		b.Blocks[0].Data, b.Blocks[1].Data, b.Blocks[2].Data = row(4096), nil, row(4096)
	})
	if errno := Check(b); errno != api.OK {
		t.Error(errno)
	}
}

// Why there is no bundle is wrapped, and found.
func TestWhyIsFound(t *testing.T) {
	fragment := with(base(), func(b *api.Bundle) { b.Flags = api.FlagFragment })
	nobody := with(base(), func(b *api.Bundle) { b.Dest = dtn("") })
	badSum := wire(base())
	badSum[len(wirePrimary(base()))] ^= 1
	read := func(w []byte) error { _, err := read(w); return err }
	for _, c := range []struct {
		err    error
		number api.Errno
		text   string
	}{
		{check(fragment), api.ErrFrag, "bundle: flags: error 62"},
		{check(nobody), api.ErrBundle, "bundle: a destination that is none: error 60"},
		{check(api.Bundle{}), api.ErrBundle, "bundle: an endpoint that may not be: error 60"},
		{read(nil), api.ErrBundle, "bundle: another byte ahead: error 60"},
		{read([]byte{0x9f}), api.ErrShort, "bundle: primary block: error 30"},
		{read([]byte{0x9f, 0xff}), api.ErrCbor, "bundle: primary block: error 31"},
		{read(unhex(t, "9f 88 06 00 00 00 00 00 00 00")), api.ErrVersion, "bundle: primary block: error 61"},
		{read(badSum), api.ErrCrc, "bundle: primary block's sum: error 51"},
		{read(framed(wirePrimary(base()), []byte{0x80})), api.ErrBlock, "bundle: block: error 50"},
		{read(framed(wirePrimary(base()), nil)), api.ErrShort, "bundle: blocks without an end: error 30"},
		{read(wire(fragment)), api.ErrFrag, "bundle: flags: error 62"},
	} {
		if c.err == nil || c.err.Error() != c.text || !errors.Is(c.err, cause(c.number)) || numberOf(c.err) != c.number {
			t.Errorf("%v, %d, not %s", c.err, numberOf(c.err), c.text)
		}
	}
	if numberOf(nil) != api.OK {
		t.Error("of nothing wrong")
	}
}
