package eid

import (
	"bytes"
	"encoding/hex"
	"errors"
	"math"
	"math/rand"
	"regexp"
	"strings"
	"testing"

	"fairlead/api"
	"fairlead/cbor"
)

const letters = "abcdefghijklmnopqrstuvwxyz0123456789.-_"

func dtn(name string) api.Eid {
	return api.Eid{Scheme: api.Dtn, Name: name}
}

func ipn(node, service uint64) api.Eid {
	return api.Eid{Scheme: api.Ipn, Node: node, Service: service}
}

// unhex reads bytes as people write them, blanks between.
func unhex(t *testing.T, s string) []byte {
	t.Helper()
	b, err := hex.DecodeString(strings.ReplaceAll(s, " ", ""))
	if err != nil {
		t.Fatal(err)
	}
	return b
}

// equal holds items against each other; nil and empty lists are the same.
func equal(x, y api.Item) bool {
	if x.Kind != y.Kind || x.N != y.N || !bytes.Equal(x.Data, y.Data) || len(x.List) != len(y.List) {
		return false
	}
	for i := range x.List {
		if !equal(x.List[i], y.List[i]) {
			return false
		}
	}
	return true
}

// array answers an array as it stands in memory, so that no call of another layer is between.
func array(l ...api.Item) api.Item {
	return api.Item{Kind: api.ItemArray, List: l}
}

func number(n uint64) api.Item {
	return api.Item{Kind: api.ItemUint, N: n}
}

func text(s string) api.Item {
	return api.Item{Kind: api.ItemText, Data: []byte(s)}
}

// someone is an endpoint that may be, and all that is told of it.
type someone struct {
	e    api.Eid
	text string
	node string
	item api.Item
}

// all answers endpoints that may be, the edges of names and numbers among them.
func all() []someone {
	l := []someone{
		{dtn(""), "dtn:none", "", array(number(1), number(0))},
		{ipn(3, 7), "ipn:3.7", "ipn:3.0", array(number(2), array(number(3), number(7)))},
		{ipn(1, 0), "ipn:1.0", "ipn:1.0", array(number(2), array(number(1), number(0)))},
		{ipn(1, 4294967295), "ipn:1.4294967295", "ipn:1.0", array(number(2), array(number(1), number(4294967295)))},
		{ipn(4294967295, 0), "ipn:4294967295.0", "ipn:4294967295.0", array(number(2), array(number(4294967295), number(0)))},
		{ipn(4294967295, 4294967295), "ipn:4294967295.4294967295", "ipn:4294967295.0", array(number(2), array(number(4294967295), number(4294967295)))},
		{ipn(10, 100), "ipn:10.100", "ipn:10.0", array(number(2), array(number(10), number(100)))},
	}
	for _, c := range []struct{ node, rest string }{
		{"a", ""},
		{"a", "b"},
		{"a", "/"},
		{"a", "//"},
		{"a", "b/c"},
		{"a", "b/c/"},
		{"a", "/b//c/"},
		{"none", ""},
		{"0", "0"},
		{".", "."},
		{"..", "../.."},
		{"-", "-"},
		{"_", "_"},
		{letters, letters[:20] + "/"},
		{letters, letters[18:] + "/"},
		{strings.Repeat("a", 61), ""}, // 64 bytes
		{"a", strings.Repeat("b", 60)},
		{"a", strings.Repeat("/", 60)},
		{strings.Repeat("a", 30), strings.Repeat("b", 31)},
	} {
		name := "//" + c.node + "/" + c.rest
		l = append(l, someone{dtn(name), "dtn:" + name, "dtn://" + c.node + "/", array(number(1), text(name))})
	}
	return l
}

// names answers names that may not be.
func names() []string {
	l := []string{
		"/", "//", "///", "////", "///a", "////a", "///a/", "///a/b",
		"a", "a/", "a/b", "/a", "/a/", "/a/b", "a//b/", "none", "no//ne/",
		"//a", "//ab", "a//a/", " //a/", "//a/ ", "// a/", "//a /", "//a/b c",
		"//A/", "//a/B", "//aB/", "//a/b/C", "dtn://a/", "//a:b/", "//a/b:c", "//a/%61", "//a/b?c", "//a/b#c", "//a@b/", "//~a/", "//a,b/", "//a/b,c",
		"//ä/", "//a/ä", "//a/\x00", "//\xff/", "//a/\xff", "//\x00/", "//a\n/", "//a/\n", "//a/b\n",
		"//" + strings.Repeat("a", 62) + "/", // 65 bytes
		"//a/" + strings.Repeat("b", 61),
		"//a/" + strings.Repeat("/", 61),
		"//" + strings.Repeat("a", 62),
		"//a/" + strings.Repeat("b", 1<<16),
		strings.Repeat("/", 64), strings.Repeat("/", 65),
	}
	return l
}

// noOne answers endpoints that may not be.
func noOne() []api.Eid {
	l := []api.Eid{
		{},
		{Scheme: api.Dtn, Node: 1}, {Scheme: api.Dtn, Service: 1}, {Scheme: api.Dtn, Node: 1, Service: 1},
		{Scheme: api.Dtn, Node: math.MaxUint64}, {Scheme: api.Dtn, Service: math.MaxUint64},
		{Scheme: api.Dtn, Name: "//a/b", Node: 1}, {Scheme: api.Dtn, Name: "//a/b", Service: 1}, {Scheme: api.Dtn, Name: "//a/b", Node: 3, Service: 7},
		{Scheme: api.Ipn}, ipn(0, 1), ipn(0, 4294967295), ipn(0, 4294967296),
		ipn(4294967296, 0), ipn(4294967297, 0), ipn(1, 4294967296), ipn(1, 4294967297), ipn(4294967296, 4294967296),
		ipn(math.MaxUint64, 1), ipn(1, math.MaxUint64), ipn(1<<63, 1), ipn(1, 1<<63),
		{Scheme: api.Ipn, Name: "//a/b", Node: 3, Service: 7}, {Scheme: api.Ipn, Name: "3.7", Node: 3, Service: 7}, {Scheme: api.Ipn, Name: "//a/b"}, {Scheme: api.Ipn, Name: " ", Node: 1},
	}
	for _, name := range names() {
		l = append(l, dtn(name))
	}
	for _, scheme := range []api.Scheme{0, 3, 4, -1, -2, 257, 258, math.MinInt, math.MaxInt, 1 + 1<<32, 2 + 1<<32} {
		l = append(l,
			api.Eid{Scheme: scheme},
			api.Eid{Scheme: scheme, Name: "//a/b"},
			api.Eid{Scheme: scheme, Node: 3, Service: 7})
	}
	return l
}

// P4.1

func TestCheck(t *testing.T) {
	for _, c := range all() {
		if !Check(c.e) {
			t.Errorf("%v may be", c.e)
		}
	}
	for _, e := range noOne() {
		if Check(e) {
			t.Errorf("%v may not be", e)
		}
	}
}

// TestLetters asks each byte, ahead of the third slash and behind it, alone and among others.
func TestLetters(t *testing.T) {
	for i := range 256 {
		c := string([]byte{byte(i)})
		letter := strings.Contains(letters, c)
		// A slash ahead of the third one is the third one; with nothing ahead of it there is no name.
		for _, name := range []string{"//" + c + "/", "//" + c + "/b", "//" + c + "a/b"} {
			if Check(dtn(name)) != letter {
				t.Errorf("Check of %q: %v", name, !letter)
			}
		}
		for _, name := range []string{"//a" + c + "/", "//a" + c + "b/", "//a/" + c, "//a/b" + c, "//a/" + c + "b", "//a//" + c + "/"} {
			if want := letter || c == "/"; Check(dtn(name)) != want {
				t.Errorf("Check of %q: %v", name, !want)
			}
		}
		for _, name := range []string{"/" + c + "a/b", c + "/a/b", "//a" + c} {
			if want := c == "/"; Check(dtn(name)) != want {
				t.Errorf("Check of %q: %v", name, !want)
			}
		}
		for _, name := range []string{c, c + c, c + "//a/", c + "///", "//" + c, "///" + c, "///" + c + "/"} {
			if Check(dtn(name)) {
				t.Errorf("%q is taken as a name", name)
			}
		}
	}
}

func TestLengthsOfNames(t *testing.T) {
	for size := 5; size < 200; size++ {
		for _, name := range []string{
			"//" + strings.Repeat("x", size-3) + "/",
			"//x/" + strings.Repeat("y", size-4),
			"//x/" + strings.Repeat("/", size-4),
		} {
			if want := size <= 64; Check(dtn(name)) != want {
				t.Errorf("Check of a name of %d bytes: %v", len(name), !want)
			}
		}
	}
}

func TestNumbers(t *testing.T) {
	numbers := []uint64{0, 1, 2, 1<<32 - 2, 1<<32 - 1, 1 << 32, 1<<32 + 1, 1<<63 - 1, 1 << 63, math.MaxUint64}
	for _, node := range numbers {
		for _, service := range numbers {
			want := 0 < node && node < 1<<32 && service < 1<<32
			if Check(ipn(node, service)) != want {
				t.Errorf("Check of Node %d, Service %d: %v", node, service, !want)
			}
		}
	}
}

func TestNone(t *testing.T) {
	for _, c := range all() {
		if want := c.text == "dtn:none"; None(c.e) != want {
			t.Errorf("None(%v) = %v", c.e, !want)
		}
	}
	for _, e := range noOne() {
		if None(e) {
			t.Errorf("%v is taken as no one", e)
		}
	}
}

// P4.2

func TestItem(t *testing.T) {
	for _, c := range all() {
		x, errno := Item(c.e)
		if errno != api.OK || !equal(x, c.item) {
			t.Errorf("Item(%v) = %v, %d, not %v", c.e, x, errno, c.item)
		}
	}
	for _, e := range noOne() {
		x, errno := Item(e)
		if errno != api.ErrEid || !equal(x, api.Item{}) {
			t.Errorf("Item(%v) = %v, %d: to be refused", e, x, errno)
		}
	}
}

func TestItemAsBytes(t *testing.T) {
	for _, c := range []struct {
		e    api.Eid
		want string
	}{
		{dtn(""), "82 01 00"},
		{dtn("//a/"), "82 01 64 2f 2f 61 2f"},
		{ipn(23, 24), "82 02 82 17 18 18"},
		{ipn(4294967295, 4294967295), "82 02 82 1a ff ff ff ff 1a ff ff ff ff"},
	} {
		x, _ := Item(c.e)
		b, errno := cbor.Encode(x)
		if errno != api.OK || !bytes.Equal(b, unhex(t, c.want)) {
			t.Errorf("the item of %v: % x, %d, not %s", c.e, b, errno, c.want)
		}
	}
}

func TestFrom(t *testing.T) {
	for _, c := range all() {
		if e, errno := From(c.item); errno != api.OK || e != c.e {
			t.Errorf("From(%v) = %v, %d, not %v", c.item, e, errno, c.e)
		}
	}
	// nil and empty lists are the same.
	x := array(api.Item{N: 1, Data: []byte{}, List: []api.Item{}}, number(0))
	x.Data = []byte{}
	if e, errno := From(x); errno != api.OK || !None(e) {
		t.Errorf("From of none with empty lists = %v, %d", e, errno)
	}
}

// strangers answers items that are nobody's.
func strangers() []api.Item {
	two, name := array(number(3), number(7)), text("//a/b")
	bytesOf := func(s string) api.Item { return api.Item{Kind: api.ItemBytes, Data: []byte(s)} }
	endless := func(l ...api.Item) api.Item { return api.Item{Kind: api.ItemEndless, List: l} }
	l := []api.Item{
		// no arrays
		{}, number(1), number(2), name, text("dtn:none"), text("ipn:3.7"), bytesOf("//a/b"), {Kind: 1}, {Kind: 6}, {Kind: -1},
		// too few parts, too many
		array(), array(number(1)), array(number(2)), array(two), array(name), array(number(1), name, number(0)), array(number(1), number(0), number(0)),
		array(number(2), two, two), array(number(2), number(3), number(7)), array(number(1), name, array()), array(number(2), two, api.Item{}),
		array(number(2), array()), array(number(2), array(number(3))), array(number(2), array(number(3), number(7), number(0))), array(number(2), array(number(3), number(7), number(7))),
		// endless
		endless(), endless(number(1), number(0)), endless(number(1), name), endless(number(2), two), array(number(2), endless(number(3), number(7))), endless(number(2), endless(number(3), number(7))),
		array(endless(), number(0)), array(number(1), endless()), array(number(1), endless(name)),
		// of other kinds
		array(text("1"), name), array(bytesOf("\x01"), name), array(array(number(1)), name), array(array(), two), array(name, number(1)), array(two, number(2)),
		array(number(1), bytesOf("//a/b")), array(number(1), array(name)), array(number(1), two), array(number(1), array()), array(number(1), bytesOf("")),
		array(number(2), name), array(number(2), text("3.7")), array(number(2), number(0)), array(number(2), number(3)), array(number(2), bytesOf("\x03\x07")), array(number(2), text("")),
		array(number(2), array(number(3), text("7"))), array(number(2), array(text("3"), number(7))), array(number(2), array(array(number(3)), number(7))), array(number(2), array(number(3), array())), array(number(2), array(number(3), bytesOf(""))),
		array(api.Item{Kind: 1, N: 1}, name), array(api.Item{Kind: 1, N: 2}, two),
		// none otherwise
		array(number(1), text("")), array(number(1), text("none")), array(number(1), text("dtn:none")), array(number(1), number(1)), array(number(1), number(math.MaxUint64)), array(number(1), array(number(0), number(0))),
		array(number(1), text("dtn://a/b")),
		// schemes that are none
		array(number(0), number(0)), array(number(0), name), array(number(0), two), array(number(3), number(0)), array(number(3), name), array(number(3), two),
		array(number(1<<32+1), name), array(number(1<<32+2), two), array(number(math.MaxUint64), number(0)), array(number(1<<63+1), name), array(number(257), name),
	}
	for _, name := range names() {
		l = append(l, array(number(1), text(name)))
	}
	for _, e := range noOne() {
		if e.Scheme == api.Ipn && e.Name == "" {
			l = append(l, array(number(2), array(number(e.Node), number(e.Service))))
		}
	}
	return l
}

func TestFromRefuses(t *testing.T) {
	for _, x := range strangers() {
		if e, errno := From(x); errno != api.ErrEid || e != (api.Eid{}) {
			t.Errorf("From(%v) = %v, %d: to be refused", x, e, errno)
		}
	}
}

// each calls do with each item within x, x too.
func each(x *api.Item, do func(y *api.Item)) {
	do(x)
	for i := range x.List {
		each(&x.List[i], do)
	}
}

// TestFromOfChanged: an item with one thing changed anywhere is another endpoint's, or nobody's.
func TestFromOfChanged(t *testing.T) {
	changes := []func(y *api.Item){
		func(y *api.Item) { y.Kind++ },
		func(y *api.Item) { y.Kind-- },
		func(y *api.Item) { y.N++ },
		func(y *api.Item) { y.N-- },
		func(y *api.Item) { y.N += 1 << 32 },
		func(y *api.Item) { y.N += 1 << 63 },
		func(y *api.Item) { y.Data = append([]byte("a"), y.Data...) },
		func(y *api.Item) { y.Data = append(bytes.Clone(y.Data), 'a') },
		func(y *api.Item) { y.Data = append(bytes.Clone(y.Data), 0) },
		func(y *api.Item) { y.Data = append(bytes.Clone(y.Data), '/') },
		func(y *api.Item) { y.List = append([]api.Item{{}}, y.List...) },
		func(y *api.Item) { y.List = append(y.List[:len(y.List):len(y.List)], api.Item{}) },
		func(y *api.Item) { y.List = y.List[:max(len(y.List)-1, 0)] },
		func(y *api.Item) { y.Kind = api.ItemEndless },
	}
	asked, taken := 0, 0
	for _, c := range all() {
		places := 0
		each(&c.item, func(*api.Item) { places++ })
		for place := range places {
			for _, change := range changes {
				x := cbor.Array(c.item).List[0]
				at := 0
				each(&x, func(y *api.Item) {
					if at == place {
						change(y)
					}
					at++
				})
				e, errno := From(x)
				asked++
				if errno == api.OK {
					taken++
					if y, _ := Item(e); !Check(e) || !equal(x, y) {
						t.Errorf("From(%v) = %v, whose item is %v", x, e, y)
					}
				} else if errno != api.ErrEid || e != (api.Eid{}) {
					t.Errorf("From(%v) = %v, %d", x, e, errno)
				}
			}
		}
	}
	if taken == 0 || taken == asked {
		t.Errorf("%d of %d were taken", taken, asked)
	}
}

// TestFromEnds: items that are deep, great, or hold themselves.
func TestFromEnds(t *testing.T) {
	deep := number(1)
	for range 1 << 16 {
		deep = array(deep)
	}
	wide := array(make([]api.Item, 1<<16)...)
	round := array(number(2), number(0))
	round.List[1] = round
	long := text(strings.Repeat("a", 1<<20))
	for i, x := range []api.Item{
		deep, wide, round, long,
		array(number(1), deep), array(deep, number(0)), array(number(2), array(deep, deep)), array(number(2), array(number(1), deep)),
		array(number(1), wide), array(wide, wide), array(number(2), array(number(1), wide)),
		array(number(1), long), array(number(1), api.Item{Data: long.Data}), array(long, number(0)),
		array(number(2), round), array(round, round),
	} {
		if e, errno := From(x); errno != api.ErrEid || e != (api.Eid{}) {
			t.Errorf("the item at %d is taken as %v, %d", i, e, errno)
		}
	}
}

// P4.3

func TestText(t *testing.T) {
	for _, c := range all() {
		if got := Text(c.e); got != c.text {
			t.Errorf("Text(%v) = %q, not %q", c.e, got, c.text)
		}
	}
	for _, e := range noOne() {
		if got := Text(e); got != "" {
			t.Errorf("Text(%v) = %q", e, got)
		}
	}
}

func TestNode(t *testing.T) {
	for _, c := range all() {
		if got := Node(c.e); got != c.node {
			t.Errorf("Node(%v) = %q, not %q", c.e, got, c.node)
		}
	}
	for _, e := range noOne() {
		if got := Node(e); got != "" {
			t.Errorf("Node(%v) = %q", e, got)
		}
	}
}

// TestNodeOfNode: a node's text is an endpoint's, which is on that node.
func TestNodeOfNode(t *testing.T) {
	for _, c := range all() {
		if c.node == "" {
			continue
		}
		e, errno := Parse(Node(c.e))
		if errno != api.OK || Node(e) != c.node || Text(e) != c.node {
			t.Errorf("the node of %v is %q: %v, %d", c.e, c.node, e, errno)
		}
	}
}

func TestParse(t *testing.T) {
	for _, c := range all() {
		if e, errno := Parse(c.text); errno != api.OK || e != c.e {
			t.Errorf("Parse(%q) = %v, %d, not %v", c.text, e, errno, c.e)
		}
	}
}

func TestParseRefuses(t *testing.T) {
	l := []string{
		"", " ", ":", ".", "dtn", "ipn", "none", "//a/b", "3.7", "dtn//a/b", "ipn3.7", "dtn.none", "ipn:", "dtn:",
		// other cases of letters, other schemes
		"DTN:none", "Dtn:none", "dtn:None", "dtn:NONE", "dtn:nonE", "IPN:3.7", "Ipn:3.7", "ipN:3.7", "DTN://a/b", "dtn://A/b", "dtn://a/B", "http://a/b", "imc:3.7", "ftp:3.7",
		// none otherwise
		"dtn:none ", " dtn:none", "dtn: none", "dtn:none/", "dtn:none/a", "dtn:none.0", "dtn:nonenone", "dtn://none", "dtn:/none", "dtn:non", "ipn:none", "dtn:none\x00", "dtn:none\n", "dtn:dtn:none", "dtn:0", "dtn:0.0",
		// schemes with what is the other one's
		"dtn:3.7", "dtn:1.0", "ipn://a/b", "ipn://3.7", "dtn:ipn:3.7", "ipn:dtn://a/", "ipn:ipn:3.7",
		// noughts ahead in digits
		"ipn:03.7", "ipn:3.07", "ipn:00.7", "ipn:3.00", "ipn:01.0", "ipn:1.00", "ipn:003.007", "ipn:0000000003.7", "ipn:3.00000000000000000000000000", "ipn:04294967295.0",
		// without digits
		"ipn:.", "ipn:.7", "ipn:3.", "ipn:3", "ipn:37", "ipn:a.7", "ipn:3.a", "ipn:a.b", "ipn:3a.7", "ipn:3.7a", "ipn:a3.7", "ipn:3.a7", "ipn:0x3.7", "ipn:3.0x7", "ipn:1e3.7", "ipn:3.1e3", "ipn:1_0.7", "ipn:3.1_0", "ipn:3,7", "ipn:3:7", "ipn:3/7", "ipn:3-7",
		"ipn:٣.٧", "ipn:3.٧", "ipn:３.7",
		// too many numbers
		"ipn:3..7", "ipn:.3.7", "ipn:3.7.", "ipn:3.7.0", "ipn:3.7.1", "ipn:3.7/", "ipn:3.7/a", "ipn:1.2.3.4",
		// signs and blanks
		"ipn:+3.7", "ipn:3.+7", "ipn:-3.7", "ipn:3.-7", "ipn:-0.7", "ipn:3.-0", "ipn:3.+0", "ipn:--3.7",
		" ipn:3.7", "ipn:3.7 ", "ipn: 3.7", "ipn:3 .7", "ipn:3. 7", "ipn :3.7", "i pn:3.7", "ipn:3.7\n", "ipn:3\t.7", "ipn:3.7\x00", "\x00ipn:3.7", "ipn:3 7", "ipn:1 0.7",
		// numbers that may not be
		"ipn:0.0", "ipn:0.7", "ipn:4294967296.0", "ipn:4294967297.7", "ipn:3.4294967296", "ipn:3.4294967303", "ipn:3.42949672950", "ipn:18446744073709551615.7", "ipn:18446744073709551616.7", "ipn:18446744073709551619.7", "ipn:3.18446744073709551615", "ipn:3.18446744073709551623",
		"ipn:3." + strings.Repeat("9", 1<<16), "ipn:" + strings.Repeat("9", 1<<16) + ".7", "ipn:" + strings.Repeat("0", 1<<16) + "3.7", "ipn:" + strings.Repeat(".", 1<<16),
		strings.Repeat("dtn:", 1<<16), "dtn:" + strings.Repeat("/", 1<<16),
		"\xff", "dtn:\xff", "ipn:\xff.7", "ipn:3.\xff",
	}
	for _, name := range names() {
		if name != "none" {
			l = append(l, "dtn:"+name)
		}
	}
	for _, s := range l {
		if e, errno := Parse(s); errno != api.ErrEid || e != (api.Eid{}) {
			t.Errorf("Parse(%.80q) = %v, %d: to be refused", s, e, errno)
		}
	}
}

// model tells in another way than Parse whether a text is an endpoint's.
func model() func(s string) bool {
	names := regexp.MustCompile(`\Adtn:(none|//[a-z0-9._-]+/[a-z0-9._/-]*)\z`)
	numbers := regexp.MustCompile(`\Aipn:([1-9][0-9]{0,9})\.(0|[1-9][0-9]{0,9})\z`)
	fits := func(s string) bool { return len(s) < 10 || s <= "4294967295" }
	return func(s string) bool {
		if m := numbers.FindStringSubmatch(s); m != nil {
			return fits(m[1]) && fits(m[2])
		}
		return names.MatchString(s) && len(s) <= 68
	}
}

// askText holds Parse of a text against the model.
func askText(t *testing.T, may func(s string) bool, s string) bool {
	t.Helper()
	e, errno := Parse(s)
	if !may(s) {
		if errno != api.ErrEid || e != (api.Eid{}) {
			t.Errorf("Parse(%q) = %v, %d: to be refused", s, e, errno)
		}
		return false
	}
	if errno != api.OK || !Check(e) || Text(e) != s {
		t.Errorf("Parse(%q) = %v, %d, whose text is %q", s, e, errno, Text(e))
	}
	return true
}

// TestParseOfAllShort asks all short texts of bytes that matter, behind either scheme.
func TestParseOfAllShort(t *testing.T) {
	may, taken := model(), 0
	var ask func(ahead, bytes string, more int)
	ask = func(ahead, bytes string, more int) {
		if askText(t, may, ahead) {
			taken++
		}
		for i := 0; more > 0 && i < len(bytes); i++ {
			ask(ahead+bytes[i:i+1], bytes, more-1)
		}
	}
	ask("dtn:", "/a.A n", 6)
	ask("dtn://", "/-_:\x00", 5)
	ask("dtn:non", "enN /", 3)
	ask("ipn:", "012.9+- a", 5)
	ask("ipn:429496729", "56.01", 5)
	ask("ipn:1.429496729", "56.01", 5)
	ask("", "dtnip:", 4)
	if taken < 1000 {
		t.Errorf("only %d were taken", taken)
	}
}

// TestParseOfChanged asks texts that are an endpoint's but for some bytes.
func TestParseOfChanged(t *testing.T) {
	may, taken := model(), 0
	r := rand.New(rand.NewSource(1))
	l := all()
	for range 100000 {
		b := []byte(l[r.Intn(len(l))].text)
		for range 1 + r.Intn(3) {
			at := r.Intn(len(b) + 1)
			switch r.Intn(3) {
			case 0:
				b = append(b[:at:at], append([]byte{"adinptoe:/.-_0129 +AZ"[r.Intn(21)]}, b[at:]...)...)
			case 1:
				b = append(b[:at:at], b[min(at+1, len(b)):]...)
			case 2:
				if at < len(b) {
					b[at] = byte(r.Intn(256))
				}
			}
		}
		if askText(t, may, string(b)) {
			taken++
		}
	}
	if taken < 1000 {
		t.Errorf("only %d were taken", taken)
	}
}

// P4.4

// chance answers an endpoint that may be, of a rule that looks like chance.
func chance(r *rand.Rand) api.Eid {
	if r.Intn(2) == 0 {
		return ipn(1+uint64(r.Uint32())>>r.Intn(32), uint64(r.Uint32())>>r.Intn(33))
	}
	name := []byte("//")
	for range 1 + r.Intn(30) {
		name = append(name, letters[r.Intn(len(letters))])
	}
	name = append(name, '/')
	for range r.Intn(65 - len(name)) {
		name = append(name, (letters + "////")[r.Intn(len(letters)+4)])
	}
	return dtn(string(name))
}

func TestThereAndBack(t *testing.T) {
	var l []api.Eid
	for _, c := range all() {
		l = append(l, c.e)
	}
	r := rand.New(rand.NewSource(2))
	for range 20000 {
		if e := chance(r); e.Node < 1<<32 {
			l = append(l, e)
		}
	}
	for _, e := range l {
		x, errno := Item(e)
		if errno != api.OK {
			t.Fatalf("Item(%v): %d", e, errno)
		}
		if got, errno := From(x); errno != api.OK || got != e {
			t.Fatalf("From of Item(%v) = %v, %d", e, got, errno)
		}
		if got, errno := Parse(Text(e)); errno != api.OK || got != e {
			t.Fatalf("Parse of Text(%v) = %v, %d", e, got, errno)
		}
		b, errno := cbor.Encode(x)
		if errno != api.OK {
			t.Fatalf("the item of %v can't be written: %d", e, errno)
		}
		y, n, errno := cbor.Decode(b)
		if got, from := From(y); errno != api.OK || n != len(b) || from != api.OK || got != e {
			t.Fatalf("From of the bytes of %v = %v, %d, %d", e, got, errno, from)
		}
	}
}

// Two endpoints have neither one text nor one item.
func TestEachHasItsOwn(t *testing.T) {
	texts, items := map[string]api.Eid{}, map[string]api.Eid{}
	for _, c := range all() {
		x, _ := Item(c.e)
		b, _ := cbor.Encode(x)
		if other, ok := texts[Text(c.e)]; ok {
			t.Errorf("%v and %v have one text", c.e, other)
		}
		if other, ok := items[string(b)]; ok {
			t.Errorf("%v and %v have one item", c.e, other)
		}
		texts[Text(c.e)], items[string(b)] = c.e, c.e
	}
}

// R3

func TestArgumentsStay(t *testing.T) {
	for _, l := range [][]api.Item{strangers(), {all()[0].item, all()[1].item, all()[9].item}} {
		for _, x := range l {
			was := cbor.Array(x)
			From(x)
			if !equal(array(x), was) {
				t.Errorf("From changed %v to %v", was, x)
			}
		}
	}
}

func TestAnswersAreNew(t *testing.T) {
	for _, c := range all() {
		first, _ := Item(c.e)
		each(&first, func(y *api.Item) {
			y.N += 5
			for i := range y.Data {
				y.Data[i] = 'z'
			}
		})
		if second, _ := Item(c.e); !equal(second, c.item) {
			t.Errorf("an answer changed another: %v, not %v", second, c.item)
		}
		x := cbor.Array(c.item).List[0]
		e, _ := From(x)
		each(&x, func(y *api.Item) {
			for i := range y.Data {
				y.Data[i] = 'z'
			}
		})
		if e != c.e {
			t.Errorf("From shares its argument: %v, not %v", e, c.e)
		}
	}
}

// Why there is no endpoint is wrapped, and found.
func TestWhyIsFound(t *testing.T) {
	for _, c := range []struct {
		e    api.Eid
		want error
	}{
		{api.Eid{}, errScheme},
		{dtn("//a"), errName},
		{api.Eid{Scheme: api.Dtn, Node: 1}, errNumber},
		{api.Eid{Scheme: api.Ipn, Name: "//a/b", Node: 1}, errName},
		{ipn(0, 1), errNumber},
	} {
		if _, err := written(c.e); !errors.Is(err, c.want) {
			t.Errorf("of %v: %v, not %v", c.e, err, c.want)
		}
	}
	for _, c := range []struct {
		x    api.Item
		want error
	}{
		{number(1), errScheme},
		{array(number(1), text("//a")), errName},
		{array(number(2), array(number(0), number(0))), errNumber},
		{array(number(1), text("")), errForm},
	} {
		if _, err := read(c.x); !errors.Is(err, c.want) {
			t.Errorf("of %v: %v, not %v", c.x, err, c.want)
		}
	}
	for _, c := range []struct {
		s    string
		want error
	}{
		{"a", errScheme},
		{"dtn://a", errName},
		{"ipn:0.1", errNumber},
		{"ipn:1.a", errNumber},
		{"ipn:01.1", errForm},
		{"dtn:", errForm},
	} {
		if _, err := parsed(c.s); !errors.Is(err, c.want) {
			t.Errorf("of %q: %v, not %v", c.s, err, c.want)
		}
	}
	_, err := read(api.Item{})
	var f fault
	if !errors.As(err, &f) || err.Error() != "eid: item: eid: endpoint: no such scheme" {
		t.Errorf("of nothing: %v", err)
	}
	if numberOf(nil) != api.OK || numberOf(errors.New("else")) != api.OK {
		t.Error("of nothing wrong")
	}
}

// The chapter's examples.
func TestExamples(t *testing.T) {
	for _, c := range []struct{ text, want string }{
		{"ipn:3.7", "82 02 82 03 07"},
		{"dtn://a/b", "82 01 65 2f 2f 61 2f 62"},
	} {
		e, errno := Parse(c.text)
		if errno != api.OK {
			t.Fatalf("Parse(%q): %d", c.text, errno)
		}
		x, _ := Item(e)
		if b, errno := cbor.Encode(x); errno != api.OK || !bytes.Equal(b, unhex(t, c.want)) {
			t.Errorf("%s: % x, %d, not %s", c.text, b, errno, c.want)
		}
	}
	if got := Node(dtn("//a/b")); got != "dtn://a/" {
		t.Errorf("Node of dtn://a/b = %q", got)
	}
}
