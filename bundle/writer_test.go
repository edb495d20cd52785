package bundle

import (
	"bytes"
	"math"
	"testing"

	"fairlead/api"
)

// P6.2

// written are bundles without blocks but a payload, and their primary blocks, reckoned elsewhere.
func written() []struct {
	b    api.Bundle
	want string
} {
	plain := api.Bundle{Dest: ipn(3, 7), Source: ipn(1, 2), Report: dtn(""), Time: 3, Seq: 4, Life: 1000, Blocks: []api.Block{payload("abc")}}
	short, long := plain, plain
	short.Crc, long.Crc = 1, 2
	return []struct {
		b    api.Bundle
		want string
	}{
		{plain, "88 07 00 00 82 02 82 03 07 82 02 82 01 02 82 01 00 82 03 04 19 03 e8"},
		{short, "89 07 00 01 82 02 82 03 07 82 02 82 01 02 82 01 00 82 03 04 19 03 e8 42 69 15"},
		{long, "89 07 00 02 82 02 82 03 07 82 02 82 01 02 82 01 00 82 03 04 19 03 e8 44 fc 3c a7 1e"},
		{
			api.Bundle{Flags: 4, Dest: dtn("//a/b"), Source: dtn(""), Report: dtn(""), Blocks: []api.Block{payload("")}},
			"88 07 04 00 82 01 65 2f 2f 61 2f 62 82 01 00 82 01 00 82 00 00 00",
		},
		{
			api.Bundle{Flags: 0x74006, Crc: 1, Dest: dtn("//a/b"), Source: dtn("//n-1/x/y"), Report: dtn("//r/"), Time: 24, Seq: 256, Life: 65536, Blocks: []api.Block{payload("")}},
			"89 07 1a 00 07 40 06 01 82 01 65 2f 2f 61 2f 62 82 01 69 2f 2f 6e 2d 31 2f 78 2f 79 82 01 64 2f 2f 72 2f 82 18 18 19 01 00 1a 00 01 00 00 42 3f a8",
		},
		{
			api.Bundle{Flags: math.MaxUint64 - 1, Crc: 2, Dest: ipn(math.MaxUint32, math.MaxUint32), Source: ipn(1, 0), Report: ipn(24, 255), Time: math.MaxUint64, Seq: math.MaxUint64, Life: math.MaxUint64, Blocks: []api.Block{payload("")}},
			"89 07 1b ff ff ff ff ff ff ff fe 02 82 02 82 1a ff ff ff ff 1a ff ff ff ff 82 02 82 01 00 82 02 82 18 18 18 ff 82 1b ff ff ff ff ff ff ff ff 1b ff ff ff ff ff ff ff ff 1b ff ff ff ff ff ff ff ff 44 ec 0b 5b 15",
		},
	}
}

// baseBytes are base's, reckoned elsewhere.
const baseBytes = "9f 89 07 00 02 82 02 82 03 07 82 02 82 01 02 82 01 00 82 03 04 19 03 e8 44 fc 3c a7 1e" +
	" 86 0a 02 00 02 43 82 09 01 44 72 6f 42 04 86 07 03 01 01 41 05 42 c6 6f 85 01 01 00 00 43 61 62 63 ff"

func TestPrimary(t *testing.T) {
	for _, c := range written() {
		if w, errno := Primary(c.b); errno != api.OK || !bytes.Equal(w, unhex(t, c.want)) {
			t.Errorf("Primary(%s) = % x, %d, not %s", brief(c.b), w, errno, c.want)
		}
	}
	for _, b := range all() {
		if w, errno := Primary(b); errno != api.OK || !bytes.Equal(w, wirePrimary(b)) {
			t.Errorf("Primary(%s) = % x, %d, not % x", brief(b), w, errno, wirePrimary(b))
		}
	}
}

// TestPrimaryOfLongBundles: how long the blocks are is not asked.
func TestPrimaryOfLongBundles(t *testing.T) {
	b := sized(t, 4096, 1)
	b.Blocks[2].Data = row(4096)
	if w, errno := Primary(b); errno != api.OK || !bytes.Equal(w, wirePrimary(b)) {
		t.Errorf("Primary = % x, %d", w, errno)
	}
}

func TestEncode(t *testing.T) {
	if w, errno := Encode(base()); errno != api.OK || !bytes.Equal(w, unhex(t, baseBytes)) {
		t.Errorf("Encode(%s) = % x, %d, not %s", brief(base()), w, errno, baseBytes)
	}
	for _, b := range all() {
		if w, errno := Encode(b); errno != api.OK || !bytes.Equal(w, wire(b)) {
			t.Errorf("Encode(%s) = % .200x, %d, not % .200x", brief(b), w, errno, wire(b))
		}
	}
}

func TestEncodeOfLengths(t *testing.T) {
	for kind := range 3 {
		for _, size := range []int{100, 4000, 4094, 4095, 4096} {
			b := sized(t, size, kind)
			if w, errno := Encode(b); errno != api.OK || len(w) != size || !bytes.Equal(w, wire(b)) {
				t.Errorf("Encode of a bundle of %d bytes: %d, %d", size, len(w), errno)
			}
		}
		for _, size := range []int{4097, 4098, 4120} {
			b := sized(t, size, kind)
			if w, errno := Encode(b); errno != api.ErrBundle || len(w) != 0 {
				t.Errorf("Encode of a bundle of %d bytes: %d, %d", size, len(w), errno)
			}
			if errno := Check(b); errno != api.OK {
				t.Errorf("Check of a bundle of %d bytes: %d", size, errno)
			}
		}
	}
	b := base()
	b.Blocks = many(16)
	for i := range b.Blocks {
		b.Blocks[i].Data = row(4096)
	}
	if w, errno := Encode(b); errno != api.ErrBundle || len(w) != 0 {
		t.Errorf("Encode of the longest bundle: %d, %d", len(w), errno)
	}
}

func TestPrimaryAndEncodeRefuse(t *testing.T) {
	for _, b := range refusable() {
		if w, errno := Primary(b); errno != api.ErrBundle || len(w) != 0 {
			t.Errorf("Primary(%s) = % x, %d: to be refused", brief(b), w, errno)
		}
		if w, errno := Encode(b); errno != api.ErrBundle || len(w) != 0 {
			t.Errorf("Encode(%s) = % .200x, %d: to be refused", brief(b), w, errno)
		}
	}
	for _, b := range append(all(), refusable()...) {
		b.Flags |= api.FlagFragment
		if w, errno := Primary(b); errno != api.ErrFrag || len(w) != 0 {
			t.Errorf("Primary of the fragment %s = % x, %d: to be refused", brief(b), w, errno)
		}
		if w, errno := Encode(b); errno != api.ErrFrag || len(w) != 0 {
			t.Errorf("Encode of the fragment %s = % .200x, %d: to be refused", brief(b), w, errno)
		}
	}
	// A fragment that is too long: it is a fragment.
	b := sized(t, 4097, 0)
	b.Flags = api.FlagFragment
	if w, errno := Encode(b); errno != api.ErrFrag || len(w) != 0 {
		t.Errorf("Encode of a fragment that is too long: %d, %d", len(w), errno)
	}
}
