package hmac

import (
	"bytes"
	library "crypto/hmac"
	"crypto/sha256"
	"encoding/hex"
	"slices"
	"strings"
	"testing"
)

// hexed reads bytes as people write them, blanks between.
func hexed(t *testing.T, s string) []byte {
	t.Helper()
	b, err := hex.DecodeString(strings.ReplaceAll(s, " ", ""))
	if err != nil {
		t.Fatal(err)
	}
	return b
}

// text answers bytes that look like chance, of a rule; of one seed a shorter text is the beginning of each longer one.
func text(size int, seed uint32) []byte {
	b := make([]byte, size)
	n := seed * 2654435761
	for i := range b {
		n = n*1103515245 + 12345
		b[i] = byte(n >> 16)
	}
	return b
}

// digest reckons a digest by the library.
func digest(parts ...[]byte) []byte {
	d := sha256.Sum256(bytes.Join(parts, nil))
	return d[:]
}

// elsewhere reckons a tag by the library.
func elsewhere(key []byte, parts ...[]byte) []byte {
	h := library.New(sha256.New, key)
	for _, p := range parts {
		h.Write(p)
	}
	return h.Sum(nil)
}

// mixed puts bytes together with one byte each.
func mixed(b []byte, x byte) []byte {
	m := bytes.Clone(b)
	for i := range m {
		m[i] ^= x
	}
	return m
}

// turned answers bytes with one bit turned.
func turned(b []byte, bit int) []byte {
	m := bytes.Clone(b)
	m[bit/8] ^= 1 << (bit % 8)
	return m
}

// joined answers two texts, one behind the other, as new memory.
func joined(a, b []byte) []byte {
	return append(bytes.Clone(a), b...)
}

// keys has keys of the edges' lengths, and ones of noughts and of all bits.
func keys() [][]byte {
	l := [][]byte{nil, {}, {0}, {255}, make([]byte, 64), make([]byte, 65)}
	for _, size := range []int{1, 8, 31, 32, 33, 55, 56, 62, 63, 64, 65, 66, 96, 119, 127, 128, 129, 1000} {
		l = append(l, text(size, 1), bytes.Repeat([]byte{255}, size))
	}
	return l
}

// tagged has tags reckoned elsewhere: the examples of RFC 4231 (the fifth with its tag whole), and others.
func tagged() []struct {
	key, b []byte
	tag    string
} {
	return []struct {
		key, b []byte
		tag    string
	}{
		{bytes.Repeat([]byte{0x0b}, 20), []byte("Hi There"), "b0344c61d8db38535ca8afceaf0bf12b881dc200c9833da726e9376c2e32cff7"},
		{[]byte("Jefe"), []byte("what do ya want for nothing?"), "5bdcc146bf60754e6a042426089575c75a003f089d2739839dec58b964ec3843"},
		{bytes.Repeat([]byte{0xaa}, 20), bytes.Repeat([]byte{0xdd}, 50), "773ea91e36800e46854db8ebd09181a72959098b3ef8c122d9635514ced565fe"},
		{[]byte("\x01\x02\x03\x04\x05\x06\x07\x08\x09\x0a\x0b\x0c\x0d\x0e\x0f\x10\x11\x12\x13\x14\x15\x16\x17\x18\x19"), bytes.Repeat([]byte{0xcd}, 50), "82558a389a443c0ea4cc819899f2083a85f0faa3e578f8077a2e3ff46729665b"},
		{bytes.Repeat([]byte{0x0c}, 20), []byte("Test With Truncation"), "a3b6167473100ee06e0c796c2955552bfa6f7c0a6a8aef8b93f860aab0cd20c5"},
		{bytes.Repeat([]byte{0xaa}, 131), []byte("Test Using Larger Than Block-Size Key - Hash Key First"), "60e431591ee0b67f0d8a26aacbf5b77f8e0bc6213728c5140546040f0ee37f54"},
		{bytes.Repeat([]byte{0xaa}, 131), []byte("This is a test using a larger than block-size key and a larger than block-size data. The key needs to be hashed before being used by the HMAC algorithm."), "9b09ffa71b942fcb27635fbcd5b0e944bfdc63644f0713938a7f51535c3a35e2"},
		{nil, nil, "b613679a0814d9ec772f95d778c35fc5ff1697c493715653c6c712144292c5ad"},
		{nil, text(100, 2), "ed7f327c3ce8ccc7419a3b51a45288e88d4d38b79ac2b44a67768ffe166e8c83"},
		{text(1, 1), nil, "c8afb34f5cfd933d19802c6fc02a505a5d5f146d0dd5ce7c1c81bae11a7c9373"},
		{text(1, 1), text(100, 2), "cfafcd65e114492509436fe2b4087bba1cc0c8e475ce61a9dc24bbdca5ad883e"},
		{text(31, 1), nil, "9c59c22f4b5872d75069815cbd7bce9dfed5880753b73049dea69de266da8c42"},
		{text(31, 1), text(100, 2), "33558c387a533ba0a977c7037805467091f23a1c0ee04f6aff6f1c67ffe804f5"},
		{text(32, 1), nil, "21cabf2bc58d551c11246581640906aa2f959499637d56e31752d38d136ed6d6"},
		{text(32, 1), text(100, 2), "ddddb7dce6082fd3879d38434c8836d5b0ea8d943aee8403c38176cbcb3d3709"},
		{text(33, 1), nil, "7f1277aac70035c059ac6c7b991a0c1e6dde6f5300f50e7c90427bff69b6c390"},
		{text(33, 1), text(100, 2), "29ccde1505e1b7c29084fcbadee79da78fc38547899a60031cd5f9278ddd8807"},
		{text(63, 1), nil, "417f2e1c9027b6599caaaa99907bc304122b43ba14ad08643e633a0b8fb6d015"},
		{text(63, 1), text(1, 2), "ac5eb99598d54cf149135e5b06922c15577cc1e1bb8629d9d15e7770ad7a74bd"},
		{text(63, 1), text(55, 2), "9858207e94a1d831475ed7f61b2d287e98e185c922ac74e925631bb75770f539"},
		{text(63, 1), text(56, 2), "1a194abfcc3dc311803add886545fc424aa9fbf3721f697f52aae1d743273af2"},
		{text(63, 1), text(64, 2), "d3d026292552ab1ed4db909248eb791786bc51ea2532e2f9ac3f71d4c7d414c0"},
		{text(63, 1), text(4096, 2), "a88f1c6e5d1d37c081e7cd70bbef4e9ed12f86f35cab83c42fef96dfa12a81c7"},
		{text(64, 1), nil, "dccb7dc8e1b2017fdd5ff8862b4f87428fede001b6b62d65b52b5475fde6b2e5"},
		{text(64, 1), text(1, 2), "b1f5d979f680e1b3851a8172368b8dd0fddd8ba665c33a5c4417444e1b08eac2"},
		{text(64, 1), text(55, 2), "3176f398d5d74c7e44403ba069bbf6a7d0f0433ff17e1022f06290e50ea5badd"},
		{text(64, 1), text(56, 2), "f613f8391489ec7c65da15d870179d26b7278bfe9e3b83e6b1b81b2e35ba0bbd"},
		{text(64, 1), text(64, 2), "908a5e77da1bb0b31fa5946d51be204a8932a7d6b2639ef81d41acf5595a2e98"},
		{text(64, 1), text(4096, 2), "2c745732b8b6bfbb510c2d35f5ec48cbeb1973661ea2400a5968b23bd9170d94"},
		{text(65, 1), nil, "5fb5a6ec9aa6c0ec21174cdef5f8603e2f50ad81019ebec416a2eafa495f67db"},
		{text(65, 1), text(1, 2), "686f99c01ae2a8cb6778da75c680969f9f00e75bad9ce109ff8481ba0caa1bc4"},
		{text(65, 1), text(55, 2), "1138e6060be82444859d14d18a1f2ea4ab34bcb852d45049d59d7c6062cc2cf2"},
		{text(65, 1), text(56, 2), "09a3dd077d5c18c61d9b771d35d9219059b554614f84fa5cfc334d9810d647cc"},
		{text(65, 1), text(64, 2), "f413af5ec043cd9ee03e2f0b7d3c43c11be5b3b157d08a9ced586e0d7e40403c"},
		{text(65, 1), text(4096, 2), "879faa5206bae5e331c88a944dbf9b93b38dbcce14710419acdf7f2b97c41744"},
		{text(128, 1), nil, "e65447e8556bab7ffabe9f604ea4792b555da0ec1598a28cd162ad998d06fa68"},
		{text(128, 1), text(100, 2), "b00644e879042943353ec06a1e2af3a913fe4460ac0bc33c4e233c5024fa0105"},
		{text(1000, 1), nil, "de55991bac259cd94a5560b7d4889318e2e43b1d3db33d7f9a04dcb48d0dc5ff"},
		{text(1000, 1), text(100, 2), "afba0866358e808f59aee96ddff0dfe0a9d4cece814db80926bcc3aad116e7e3"},
	}
}

// P8.1, Key

func TestKey(t *testing.T) {
	for _, c := range []struct {
		key  []byte
		want string
	}{
		{nil, ""},
		{[]byte{}, ""},
		{[]byte{0}, ""},
		{make([]byte, 64), ""},
		{text(1, 1), "98"},
		{text(5, 1), "98d308986d"},
		{text(63, 1), "98d308986d8bdc122795b55f90a0aa29083155460d3e3eb58d8b0858ebc85d6fd3679ad8be3f3b0944e205c925bef6b115f6ec664bfe1794c8f920a968d216"},
		{text(64, 1), "98d308986d8bdc122795b55f90a0aa29083155460d3e3eb58d8b0858ebc85d6fd3679ad8be3f3b0944e205c925bef6b115f6ec664bfe1794c8f920a968d21656"},
		{text(65, 1), "d0676eba77cc7dde70ecf5ae1d510ad58e8317455fe2f8f7594e30bd8a88b7d5"},
		{text(128, 1), "c7740efcf2859efc15747e6471c8965aab66dcd376176edc07df5992e592c654"},
		{text(1000, 1), "a253a2d25aea26fc291d0534ea4825e6de5f4fec662324e2ff5873e8ef5a6f72"},
	} {
		want := make([]byte, 64)
		copy(want, hexed(t, c.want))
		if got := Key(c.key); !bytes.Equal(got, want) {
			t.Errorf("Key(%x) = %x, not %x", c.key, got, want)
		}
	}
}

// TestKeyOfEachLength: up to 64 bytes they are there as they were, beyond there is a digest.
func TestKeyOfEachLength(t *testing.T) {
	for size := range 300 {
		for _, key := range [][]byte{text(size, 1), make([]byte, size), bytes.Repeat([]byte{255}, size)} {
			ahead := key
			if size > 64 {
				ahead = digest(key)
			}
			want := joined(ahead, make([]byte, 64-len(ahead)))
			if got := Key(key); !bytes.Equal(got, want) {
				t.Errorf("Key(%x) = %x, not %x", key, got, want)
			}
		}
	}
}

// TestKeyOfKey: a key that is filled up stays as it is.
func TestKeyOfKey(t *testing.T) {
	for _, key := range keys() {
		if filled := Key(key); !bytes.Equal(Key(filled), filled) {
			t.Errorf("Key of Key(%x) = %x, not %x", key, Key(filled), filled)
		}
	}
}

// P8.1, Tag

func TestTag(t *testing.T) {
	for _, c := range tagged() {
		if got := Tag(c.key, c.b); !bytes.Equal(got, hexed(t, c.tag)) {
			t.Errorf("Tag(%x, %.100x) = %x, not %s", c.key, c.b, got, c.tag)
		}
	}
}

// TestTagIsOfTwoDigests reckons a tag in the document's words.
func TestTagIsOfTwoDigests(t *testing.T) {
	for _, key := range keys() {
		filled := Key(key)
		for _, size := range []int{0, 1, 32, 64, 300} {
			b := text(size, 2)
			want := digest(mixed(filled, 0x5c), digest(mixed(filled, 0x36), b))
			if got := Tag(key, b); !bytes.Equal(got, want) {
				t.Errorf("Tag(%x, %x) = %x, not %x", key, b, got, want)
			}
		}
	}
}

func TestTagOfEachLength(t *testing.T) {
	for size := range 200 {
		for _, other := range []int{0, 1, 55, 63, 64, 65, 100} {
			for _, c := range [][2][]byte{{text(size, 1), text(other, 2)}, {text(other, 1), text(size, 2)}} {
				if got, want := Tag(c[0], c[1]), elsewhere(c[0], c[1]); !bytes.Equal(got, want) {
					t.Errorf("Tag(%x, %x) = %x, not %x", c[0], c[1], got, want)
				}
			}
		}
	}
}

// TestTagOfNothing: no part, and empty ones.
func TestTagOfNothing(t *testing.T) {
	for _, key := range keys() {
		want := elsewhere(key)
		if got := Tag(key); !bytes.Equal(got, want) {
			t.Errorf("Tag(%x) = %x, not %x", key, got, want)
		}
		for _, parts := range [][][]byte{
			nil, {}, {nil}, {{}}, {nil, nil}, {nil, {}, nil, {}}, {text(9, 2)[:0]}, make([][]byte, 1000),
		} {
			if got := Tag(key, parts...); !bytes.Equal(got, want) {
				t.Errorf("Tag(%x, %d empty parts) = %x, not %x", key, len(parts), got, want)
			}
		}
	}
}

// TestTagOfCutTexts cuts texts at each place, empty parts between, and at each two.
func TestTagOfCutTexts(t *testing.T) {
	for _, size := range []int{0, 1, 32, 55, 56, 63, 64, 65, 128, 150} {
		for _, key := range [][]byte{nil, text(20, 1), text(65, 1)} {
			b := text(size, 2)
			want := elsewhere(key, b)
			for first := range size + 1 {
				for _, parts := range [][][]byte{
					{b[:first], b[first:]},
					{nil, b[:first], nil, {}, b[first:], nil},
					{b[:first/2], b[first/2 : first], b[first:]},
				} {
					if got := Tag(key, parts...); !bytes.Equal(got, want) {
						t.Errorf("key %x, of %d bytes, cut at %d: %x, not %x", key, size, first, got, want)
					}
				}
			}
		}
	}
}

// TestTagOfManyParts: great texts, in parts of each kind.
func TestTagOfManyParts(t *testing.T) {
	key := text(40, 1)
	for _, size := range []int{4096, 1 << 16, 1<<20 + 1} {
		b := text(size, 2)
		want := elsewhere(key, b)
		for _, step := range []int{1, 7, 63, 64, 65, 1000, size} {
			if got := Tag(key, slices.Collect(slices.Chunk(b, step))...); !bytes.Equal(got, want) {
				t.Errorf("%d bytes in parts of %d: %x, not %x", size, step, got, want)
			}
		}
	}
}

// TestTagOfPartsInOrder: parts may share memory, be the key itself, and stand in any order.
func TestTagOfPartsInOrder(t *testing.T) {
	b := text(100, 2)
	for _, parts := range [][][]byte{
		{b, b}, {b[50:], b[:50]}, {b[:50], b[50:]}, {b[1:], b[:99], b[10:20]}, {[]byte("b"), []byte("a")}, {[]byte("a"), []byte("b")},
	} {
		for _, key := range [][]byte{b, b[:64], b[10:30], nil} {
			if got, want := Tag(key, parts...), elsewhere(key, parts...); !bytes.Equal(got, want) {
				t.Errorf("Tag(%x, %x) = %x, not %x", key, parts, got, want)
			}
		}
	}
}

// P8.1, Verify

func TestVerify(t *testing.T) {
	for _, c := range tagged() {
		tag := hexed(t, c.tag)
		half := len(c.b) / 2
		for _, parts := range [][][]byte{{c.b}, {c.b[:half], c.b[half:]}, {nil, c.b, {}}} {
			if !Verify(c.key, tag, parts...) {
				t.Errorf("Verify(%x, %x, %.100x): false", c.key, tag, parts)
			}
		}
	}
	for _, key := range keys() {
		if !Verify(key, elsewhere(key)) {
			t.Errorf("Verify(%x) of no part: false", key)
		}
	}
}

// others answers texts that are near a tag and are not it.
func others(tag []byte) [][]byte {
	l := [][]byte{
		nil, {}, {0}, make([]byte, 31), make([]byte, 32), make([]byte, 33), bytes.Repeat([]byte{255}, 32),
		joined(tag, []byte{0}), joined(tag, []byte{255}), joined(tag, tag[:1]), joined(tag, tag),
		joined([]byte{0}, tag), joined(tag[31:], tag), joined(tag[31:], tag[:31]), joined(tag[1:], tag[:1]),
		joined(tag, make([]byte, 32)), mixed(tag, 255), []byte(hex.EncodeToString(tag)),
	}
	// A shorter one has the rest of the tag in the room behind it.
	for size := range 32 {
		l = append(l, tag[:size], tag[32-size:], joined(tag[:size], make([]byte, 32-size)))
	}
	for bit := range 8 * 32 {
		l = append(l, turned(tag, bit))
	}
	return l
}

func TestVerifyRefuses(t *testing.T) {
	for _, key := range keys() {
		for _, b := range [][]byte{nil, text(100, 2)} {
			tag := elsewhere(key, b)
			for _, x := range others(tag) {
				if Verify(key, x, b) {
					t.Errorf("Verify(%x, %x, %x): true, the tag is %x", key, x, b, tag)
				}
			}
		}
	}
}

// TestVerifyIsOfTheTagWhole: neither of the two digests alone, nor one without a key, is a tag.
func TestVerifyIsOfTheTagWhole(t *testing.T) {
	b := text(100, 2)
	for _, key := range keys() {
		filled := Key(key)
		for _, x := range [][]byte{
			digest(b), digest(key, b), digest(b, key), digest(filled, b),
			digest(mixed(filled, 0x36), b), digest(mixed(filled, 0x5c), b),
			digest(mixed(filled, 0x36), digest(mixed(filled, 0x5c), b)),
			elsewhere(b, key), filled[:32], filled,
		} {
			if Verify(key, x, b) {
				t.Errorf("Verify(%x, %x, %x): true", key, x, b)
			}
		}
	}
}

// P8.1, Chain

func TestChain(t *testing.T) {
	for _, c := range []struct {
		hash, b []byte
		want    string
	}{
		{nil, nil, "e3b0c44298fc1c149afbf4c8996fb92427ae41e4649b934ca495991b7852b855"},
		{[]byte{}, []byte{}, "e3b0c44298fc1c149afbf4c8996fb92427ae41e4649b934ca495991b7852b855"},
		{nil, text(1, 4), "2e7d2c03a9507ae265ecf5b5356885a53393a2029d241394997265a1a25aefc6"},
		{nil, text(24, 4), "57f5e45956f2edd2d99bbc120abbb4a19d8333850a2819b2cf10d5bc5b3498bd"},
		{nil, text(4096, 4), "d50ed56f8f2ca7e6d7ae7711aab1da226ef2f0ccc0b415b3bbfe05905b2d34bc"},
		{text(1, 3), nil, "13598656f10fa962b75f6c4587a61a067c14c1ef7dc9ca3703da76bae4c1beb1"},
		{text(1, 3), text(24, 4), "95be51047763d1181a3d87b15696d1bb7916c6cdddff58c467877c674954fd18"},
		{text(31, 3), nil, "9071a1b15af110e1507e2f9168b331c9c63fd0efaa1c46118c45f743228e4171"},
		{text(31, 3), text(24, 4), "3d7f2a2ed7067a6eca70bf746b2aadf1d35b48071c30e27ce19624ce22011f35"},
		{text(32, 3), nil, "492e949bac808c8560b4da1d009fe8edb3b1fe62ad98c528248f8cada7f05daa"},
		{text(32, 3), text(1, 4), "d333dfb125f065da4c633f0dd3a74e33731749d0601d8999fd67510a990e7c81"},
		{text(32, 3), text(24, 4), "02fb3708f342185e0b0d9cd55cdab2bcc21c7b8e275538795b981f75715d7132"},
		{text(32, 3), text(4096, 4), "64359e7e79379e1b7b7067a13000b02a73577b55ed6a45d345cdad19c18a5c40"},
		{text(33, 3), nil, "b907435322ada4ebe1c22c4a8afd5494fe0871bdf7a5570e50579bdd6bd08382"},
		{text(33, 3), text(24, 4), "e0f51dd91dea24d90ed652c893b229590dc7df9f16611bbc94c212a91afc8696"},
		{text(64, 3), nil, "e380938134dbcf549464afb6b9f73c1f938337798f91ce13f68f86592a7ae0a3"},
		{text(64, 3), text(24, 4), "379bf7f362e2e4b3a8e062cf762a2d7b97dd6982db21540f7ec55f27398bf5ea"},
		{text(100, 3), nil, "a953d9c1e98d7389544e411fe158002d54909c608f391269753863dde99411ca"},
		{text(100, 3), text(24, 4), "e6cb0cae453640431cfb7ee4aa25ada071f9ae1ee5678b29bc651d0a674a7243"},
	} {
		if got := Chain(c.hash, c.b); !bytes.Equal(got, hexed(t, c.want)) {
			t.Errorf("Chain(%x, %.100x) = %x, not %s", c.hash, c.b, got, c.want)
		}
	}
}

// TestChainOfEachLength: a hash of any length is taken whole, and ahead of the bytes.
func TestChainOfEachLength(t *testing.T) {
	for size := range 150 {
		for _, behind := range []int{0, 1, 24, 32, 100} {
			hash, b := text(size, 3), text(behind, 4)
			if got, want := Chain(hash, b), digest(hash, b); !bytes.Equal(got, want) {
				t.Errorf("Chain(%x, %x) = %x, not %x", hash, b, got, want)
			}
		}
	}
}

// TestChainOfChains: what it answers is the next one's hash.
func TestChainOfChains(t *testing.T) {
	hash := make([]byte, 32)
	for i := range 100 {
		hash = Chain(hash, text(i, 5))
	}
	if want := hexed(t, "cd837640d67e2b04ba636269a4a6f533ca1677d51ac1a2e12e212d12a6c8883f"); !bytes.Equal(hash, want) {
		t.Errorf("behind a hundred steps: %x, not %x", hash, want)
	}
}

// P8.2

// TestTagIsVerified: what Tag answers is what Verify takes, whatever the parts it was made of, or is asked with.
func TestTagIsVerified(t *testing.T) {
	b := text(100, 2)
	for _, key := range keys() {
		tag := Tag(key, b[:30], nil, b[30:])
		if !Verify(key, tag, b) || !Verify(key, tag, b[:64], b[64:], nil) {
			t.Errorf("the tag %x of the key %x is not verified", tag, key)
		}
	}
}

// TestTagOfAnotherText: the tag of a text is none of another one.
func TestTagOfAnotherText(t *testing.T) {
	key := text(20, 1)
	b := text(70, 2)
	tag := Tag(key, b)
	l := [][]byte{nil, b[1:], b[:69], joined(b, []byte{0}), joined([]byte{0}, b), joined(b, b), joined(b[35:], b[:35]), tag}
	for bit := range 8 * len(b) {
		l = append(l, turned(b, bit))
	}
	for _, x := range l {
		if Verify(key, tag, x) || Verify(key, Tag(key, x), b) {
			t.Errorf("one tag of %x and of %x", b, x)
		}
	}
	if Verify(key, tag) || Verify(key, tag, b, []byte{0}) || Verify(key, tag, []byte{0}, b) || Verify(key, tag, b[35:], b[:35]) {
		t.Error("the tag of a text is one of other parts")
	}
}

// TestTagOfAnotherKey: each bit of a key, of at most 64 bytes and of more, is in the tag.
func TestTagOfAnotherKey(t *testing.T) {
	b := text(40, 2)
	for _, size := range []int{1, 32, 63, 64, 65, 128} {
		key := text(size, 1)
		tag := Tag(key, b)
		for bit := range 8 * size {
			other := turned(key, bit)
			if Verify(other, tag, b) || Verify(key, Tag(other, b), b) {
				t.Errorf("one tag of the keys %x and %x", key, other)
			}
		}
		for _, other := range [][]byte{nil, key[:size-1], joined(key, []byte{1}), joined([]byte{1}, key), joined([]byte{0}, key)} {
			if Verify(other, tag, b) || Verify(key, Tag(other, b), b) {
				t.Errorf("one tag of the keys %x and %x", key, other)
			}
		}
	}
}

// one asks whether two keys are one: to all calls, or to none.
func one(t *testing.T, x, y []byte, want bool) {
	t.Helper()
	b := text(50, 2)
	if got := bytes.Equal(Key(x), Key(y)); got != want {
		t.Errorf("Key of %x and of %x: alike is %v", x, y, got)
	}
	if got := bytes.Equal(Tag(x, b), Tag(y, b)); got != want {
		t.Errorf("Tag of %x and of %x: alike is %v", x, y, got)
	}
	if Verify(x, Tag(y, b), b) != want || Verify(y, Tag(x, b), b) != want {
		t.Errorf("Verify takes the tags of %x and of %x as one's, or not, against the document", x, y)
	}
}

// TestKeysWithNoughtsBehind: up to 64 bytes they are one, beyond they are not.
func TestKeysWithNoughtsBehind(t *testing.T) {
	for _, size := range []int{0, 1, 2, 31, 32, 33, 62, 63, 64} {
		key := text(size, 1)
		for noughts := range 70 {
			one(t, key, joined(key, make([]byte, noughts)), noughts == 0 || size+noughts <= 64)
		}
	}
	for _, size := range []int{65, 100, 128} {
		for noughts := 1; noughts < 70; noughts++ {
			one(t, text(size, 1), joined(text(size, 1), make([]byte, noughts)), false)
		}
	}
	for size := range 200 {
		one(t, nil, make([]byte, size), size <= 64)
	}
}

// TestKeysWithNoughtsElsewhere: ahead, or between, noughts make another key.
func TestKeysWithNoughtsElsewhere(t *testing.T) {
	for _, size := range []int{2, 10, 32, 63, 64, 65} {
		key := text(size, 1)
		one(t, key, joined([]byte{0}, key), false)
		one(t, key, joined(joined(key[:1], []byte{0}), key[1:]), false)
	}
}

// TestKeyAndItsDigest: a key of more than 64 bytes is one with its digest (P8.1), a shorter one is not.
func TestKeyAndItsDigest(t *testing.T) {
	for _, size := range []int{0, 1, 32, 63, 64, 65, 66, 128, 1000} {
		key := text(size, 1)
		one(t, key, digest(key), size > 64)
		one(t, key, joined(digest(key), make([]byte, 32)), size > 64)
	}
}

// R3, R4

// TestArgumentsStay: no call changes what it was given, nor what room is behind it.
func TestArgumentsStay(t *testing.T) {
	key, tag, hash, b := text(300, 1), elsewhere(nil, nil), text(200, 3), text(400, 2)
	keyWas, tagWas, hashWas, bWas := bytes.Clone(key), bytes.Clone(tag), bytes.Clone(hash), bytes.Clone(b)
	parts := [][]byte{b[:10], nil, b[10:74], b[74:80], b[80:300], b[7:7]}
	partsWere := slices.Clone(parts)
	for _, size := range []int{0, 1, 32, 63, 64, 65, 200} {
		Key(key[:size])
		Chain(hash[:size], b[:size])
		for n := range len(parts) {
			Tag(key[:size], parts[:n]...)
			Verify(key[:size], tag, parts[:n]...)
			Verify(key[:size], tag[:n], parts[:n]...)
		}
	}
	if !bytes.Equal(key, keyWas) || !bytes.Equal(tag, tagWas) || !bytes.Equal(hash, hashWas) || !bytes.Equal(b, bWas) {
		t.Error("a call changed the key, the tag, the hash or the bytes")
	}
	for i := range parts {
		if len(parts[i]) != len(partsWere[i]) || cap(parts[i]) != cap(partsWere[i]) || len(parts[i]) > 0 && &parts[i][0] != &partsWere[i][0] {
			t.Errorf("part %d is another one", i)
		}
	}
}

// TestAnswersAreNew: what a caller does to an answer changes neither what it handed in nor another answer.
func TestAnswersAreNew(t *testing.T) {
	for _, size := range []int{0, 32, 64, 65} {
		key, b := text(size, 1), text(100, 2)
		filled, tag, chain := bytes.Clone(Key(key)), elsewhere(key, b), digest(key, b)
		for range 3 {
			gotKey, gotTag, gotChain := Key(key), Tag(key, b), Chain(key, b)
			if !bytes.Equal(gotKey, filled) || !bytes.Equal(gotTag, tag) || !bytes.Equal(gotChain, chain) || !Verify(key, tag, b) {
				t.Fatalf("an answer changed another: %x, %x, %x", gotKey, gotTag, gotChain)
			}
			for _, x := range [][]byte{gotKey, gotTag, gotChain} {
				clear(x[:cap(x)])
				_ = append(x[:0], text(100, 6)...)
			}
		}
		if !bytes.Equal(key, text(size, 1)) || !bytes.Equal(b, text(100, 2)) {
			t.Error("an answer is what was handed in")
		}
	}
}

// TestAnswersStay: neither a later call nor what becomes of what was handed in changes an answer.
func TestAnswersStay(t *testing.T) {
	for _, size := range []int{0, 32, 64, 65} {
		key, b := text(size, 1), text(100, 2)
		filled, tag, chain := bytes.Clone(Key(key)), elsewhere(key, b), digest(key, b)
		gotKey, gotTag, gotChain := Key(key), Tag(key, b), Chain(key, b)
		clear(key)
		clear(b)
		Key(gotKey)
		Tag(gotKey, gotTag, gotChain)
		Tag(gotTag, gotTag)
		Verify(gotKey, gotTag, gotChain)
		Chain(gotChain, gotTag)
		Key(text(64, 7))
		Tag(text(64, 7), text(64, 8))
		Chain(text(32, 7), text(64, 8))
		if !bytes.Equal(gotKey, filled) || !bytes.Equal(gotTag, tag) || !bytes.Equal(gotChain, chain) {
			t.Errorf("answers changed: %x, %x, %x", gotKey, gotTag, gotChain)
		}
	}
}

// The chapter's example.
func TestExample(t *testing.T) {
	key, b := []byte("key"), []byte("The quick brown fox jumps over the lazy dog")
	want := hexed(t, "f7bc83f4 30538424 b13298e6 aa6fb143 ef4d59a1 49461759 97479dbc 2d1a3cd8")
	if got := Tag(key, b); !bytes.Equal(got, want) {
		t.Errorf("Tag = %x, not %x", got, want)
	}
	if !Verify(key, want, b) {
		t.Error("it is not verified")
	}
}
