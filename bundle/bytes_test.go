package bundle_test

import (
	"fmt"
	"slices"
	"testing"

	"quipu/api"
	"quipu/bundle"
)

// P12.2, P12.5

func TestBytesExamples(t *testing.T) {
	s, err := bundle.Encode(one())
	if err != api.OK || s != "\x00\x01\x00\x01r\x01\x00\x00\xff\x00\x00" {
		t.Errorf("Encode: % X, error %d", s, err)
	}
	for _, bad := range []string{"", s + "\x00", s + "r", s + s} {
		if b, err := bundle.Decode(bad); err != api.ErrBundleForm || len(b.Tables) != 0 {
			t.Errorf("Decode of % X: %v, error %d", bad, b, err)
		}
	}
}

// The bytes of the chapter's two tables, written out.
func TestEncodeWrittenOut(t *testing.T) {
	want := "\x00\x07" + "\x00\x01a" + "\x00\x01b" + "\x00\x01c" + "\x00\x02en" + "\x00\x04root" + "\x00\x01x" + "\x00\x01y" +
		"\x02" +
		"\x00\x04" + "\xff" + "\x00\x03" + "\x00\x00\x00\x00\x00\x00\x05" + "\x00\x01\x02\x00\x00\x00\x00" + "\x00\x02\x01\x00\x00\x00\x07" +
		"\x00\x03" + "\x00" + "\x00\x01" + "\x00\x00\x00\x00\x00\x00\x06"
	if s := expectEncode(t, of(root(), en())); s != want {
		t.Errorf("Encode: % X, not % X", s, want)
	}
}

// A text that is a name, a key, a text and an alias stands there once; the empty one stands first.
func TestEncodeTextsOnce(t *testing.T) {
	b := of(table("a", -1, text("a", "a"), text("b", ""), alias("c", "a"), number("d", 0)), table("b", 0, alias("a", "b"), text("b", "c"), alias("c", "d")))
	s := expectEncode(t, b)
	if begin := "\x00\x05\x00\x00\x00\x01a\x00\x01b\x00\x01c\x00\x01d\x02"; s[:len(begin)] != begin {
		t.Errorf("Encode: % X", s)
	}
	for _, b := range []api.Bundle{one(text("r", "r")), one(alias("r", "r")), one(number("r", 0)), of(table("r", -1, text("s", "t")), table("s", -1, text("t", "r")), table("t", -1, text("r", "s")))} {
		s := expectEncode(t, b)
		if n := len(allTexts(b)); s[:2] != string([]byte{0, byte(n)}) {
			t.Errorf("Encode of %s: % X", short(b), s)
		}
	}
}

// The bounds of all that is laid: of texts, tables, parents, entries, numbers.
func TestEncodeAtTheBounds(t *testing.T) {
	expectEncode(t, of(tables(16)...))
	expectEncode(t, one(many("k", 1024, "")...))
	expectEncode(t, one(text(repeat("a", 1024), repeat("b", 1024)), text(repeat("é", 512), repeat("\U0010ffff", 256))))
	expectEncode(t, one(number("k", 0), number("l", 255), number("m", 256), number("n", 65536), number("o", 1<<24), number("p", 1<<31), number("q", 1<<32-1)))
	b := full(1023)
	b.Tables = append(b.Tables, table("new", -1, text("key", "one")))
	if n := len(allTexts(b)); n != 4096 {
		t.Fatal("texts:", n)
	}
	expectEncode(t, b)
	for _, n := range []int{254, 255, 256, 257, 300} {
		expectEncode(t, one(many("k", n, "text")...))
	}
	for place := range 16 {
		for parent := -1; parent < place; parent++ {
			list := tables(16)
			list[place].Parent = parent
			expectEncode(t, of(list...))
		}
	}
}

// A map has no order of its own: the bytes have one, each time.
func TestEncodeAlwaysTheSame(t *testing.T) {
	b := full(200)
	first := expectEncode(t, b)
	for range 50 {
		if s, err := bundle.Encode(b); s != first || err != api.OK {
			t.Fatal("Encode answers otherwise:", err)
		}
	}
}

func TestDecodeBeginnings(t *testing.T) {
	r := source()
	list := []api.Bundle{one(), of(root(), en()), of(tables(16)...), one(text("k", "")), one(number("k", 1<<32-1)), one(text(repeat("é", 512), "x"))}
	for range 100 {
		list = append(list, someBundle(r))
	}
	for _, b := range list {
		s := expectEncode(t, b)
		for n := range len(s) {
			if _, err := bundle.Decode(s[:n]); err != api.ErrBundleForm {
				t.Errorf("Decode of the first %d bytes of %s: error %d", n, short(b), err)
			}
			expectDecode(t, s[n:])
		}
		for _, more := range []string{"\x00", "\x00\x00", "\xff", "a", s, s[:1], s[2:], repeat("\x00", 300)} {
			if _, err := bundle.Decode(s + more); err != api.ErrBundleForm {
				t.Errorf("Decode of %s with %q behind it: error %d", short(b), more, err)
			}
			expectDecode(t, more+s)
		}
	}
}

// The beginnings of a great one, near each of its parts.
func TestDecodeBeginningsOfAGreatOne(t *testing.T) {
	s := expectEncode(t, full(300))
	for n := 0; n < len(s); n += 1 + n%97 {
		if _, err := bundle.Decode(s[:n]); err != api.ErrBundleForm {
			t.Errorf("Decode of the first %d bytes: error %d", n, err)
		}
	}
	expectDecode(t, s[:len(s)-1])
	expectDecode(t, s+"\x00")
}

func laidOne(list ...string) string {
	return lay(len(list), list, 1, laidTable{name: len(list) - 1, parent: 255})
}

// Texts that rise, all of which are named; and those that do not, come twice, or are named by nothing.
func TestDecodeTexts(t *testing.T) {
	entries := []laidEntry{{0, 0, 1}, {1, 0, 2}}
	with := func(a, b, c string) string {
		return lay(3, []string{a, b, c}, 1, laidTable{name: 2, parent: 255, many: 2, entries: entries})
	}
	for _, x := range []struct {
		s    string
		want bool
	}{
		{with("a", "b", "c"), true}, {with("a", "b", "é"), true}, {with("z", "é", "€"), true}, {with("a", "a\x00", "aa"), true}, {with("\uffff", "\U00010000", "\U0010ffff"), true},
		{with("a", "a", "b"), false}, {with("a", "b", "b"), false}, {with("a", "a", "a"), false}, {with("b", "a", "c"), false}, {with("a", "c", "b"), false}, {with("é", "z", "€"), false}, {with("\U00010000", "\uffff", "\U0010ffff"), false}, {with("aa", "a", "b"), false},
		{with("", "b", "c"), false}, {with("a", "b", "\xff"), false}, {with("a", "b\x80", "c"), false},
		{with("a", "b", repeat("c", 1024)), true}, {with("a", "b", repeat("c", 1025)), false}, {with("a", "b", repeat("é", 512)), true}, {with("a", "b", repeat("é", 513)), false},
		{laidOne("r"), true}, {laidOne("a", "r"), false}, {laidOne("", "r"), false}, {laidOne(""), false}, {laidOne("r", "r"), false}, {laidOne(), false},
		{lay(2, []string{"", "r"}, 1, laidTable{name: 1, parent: 255, many: 1, entries: []laidEntry{{1, 0, 0}}}), true},
		{lay(2, []string{"", "r"}, 1, laidTable{name: 1, parent: 255, many: 1, entries: []laidEntry{{1, 1, 0}}}), false},
		{lay(2, []string{"", "r"}, 1, laidTable{name: 1, parent: 255, many: 1, entries: []laidEntry{{1, 2, 0}}}), false},
		{lay(2, []string{"r", ""}, 1, laidTable{name: 0, parent: 255, many: 1, entries: []laidEntry{{0, 0, 1}}}), false},
	} {
		if got := expectDecode(t, x.s); got != x.want {
			t.Errorf("Decode of %s: %v, not %v", short(x.s), got, x.want)
		}
	}
}

// Places of texts and parents that are there, and that are not.
func TestDecodePlaces(t *testing.T) {
	with := func(name, parent, key, value int) string {
		return lay(4, []string{"a", "b", "c", "d"}, 2,
			laidTable{name: 0, parent: 255, many: 1, entries: []laidEntry{{1, 2, 3}}},
			laidTable{name: name, parent: parent, many: 1, entries: []laidEntry{{key, 0, value}}})
	}
	if !expectDecode(t, with(2, 0, 0, 0)) {
		t.Error("Decode of places that are there")
	}
	for _, place := range []int{0, 1, 2, 3, 4, 5, 254, 255, 256, 257, 4095, 4096, 32768, 65534, 65535} {
		if got := expectDecode(t, with(place, 0, 2, 2)); got != (place > 0 && place < 4) {
			t.Errorf("the name's place %d: %v", place, got)
		}
		if got := expectDecode(t, with(2, 0, place, 0)); got != (place < 4) {
			t.Errorf("the key's place %d: %v", place, got)
		}
	}
	for _, place := range []int{0, 3, 4, 255, 65536, 65537, 65539, 1 << 24, 1<<31 - 1, 1 << 31, 1<<32 - 4, 1<<32 - 1} {
		if got := expectDecode(t, with(2, 0, 0, place)); got != (place < 4) {
			t.Errorf("the text's place %d: %v", place, got)
		}
	}
	for parent := range 256 {
		if got := expectDecode(t, with(2, parent, 0, 0)); got != (parent == 0 || parent == 255) {
			t.Errorf("the parent %d: %v", parent, got)
		}
	}
}

func TestDecodeKindsAndNumbers(t *testing.T) {
	for kind := range 256 {
		for _, value := range []int{0, 1, 2, 3, 255, 1<<32 - 1} {
			s := lay(2, []string{"k", "r"}, 1, laidTable{name: 1, parent: 255, many: 1, entries: []laidEntry{{0, kind, value}}})
			want := kind == 1 || (kind == 0 || kind == 2) && value < 2
			if got := expectDecode(t, s); got != want {
				t.Errorf("the kind %d with %d: %v", kind, value, got)
			}
		}
	}
	for _, n := range []int{0, 1, 255, 256, 65535, 65536, 1<<31 - 1, 1 << 31, 1<<32 - 1} {
		s := lay(1, []string{"r"}, 1, laidTable{name: 0, parent: 255, many: 1, entries: []laidEntry{{0, 1, n}}})
		if b, err := bundle.Decode(s); err != api.OK || !same(b, one(number("r", n))) {
			t.Errorf("the number %d: %v, error %d", n, b, err)
		}
	}
}

// Keys and names that Check refuses are refused in bytes, too.
func TestDecodeKeysAndNames(t *testing.T) {
	with := func(keys ...int) string {
		row := laidTable{name: 3, parent: 255, many: len(keys)}
		for _, key := range keys {
			row.entries = append(row.entries, laidEntry{key, 0, key})
		}
		return lay(4, []string{"a", "b", "c", "r"}, 1, row)
	}
	for _, x := range []struct {
		keys []int
		want bool
	}{{[]int{0, 1, 2}, true}, {[]int{0, 1, 2, 3}, true}, {[]int{0, 2, 1}, false}, {[]int{1, 0, 2}, false}, {[]int{0, 0, 1, 2}, false}, {[]int{0, 1, 2, 2}, false}, {[]int{0, 1}, false}, {nil, false}} {
		if got := expectDecode(t, with(x.keys...)); got != x.want {
			t.Errorf("the keys %v: %v", x.keys, got)
		}
	}
	row := laidTable{name: 0, parent: 255}
	if expectDecode(t, lay(1, []string{"r"}, 2, row, row)) || !expectDecode(t, lay(1, []string{"r"}, 1, row)) {
		t.Error("a name that comes twice")
	}
}

// Counts that are too great for what is behind them, or for a bundle.
func TestDecodeCounts(t *testing.T) {
	row := laidTable{name: 0, parent: 255}
	for _, n := range []int{0, 1, 2, 3, 255, 256, 4096, 4097, 65535} {
		if got := expectDecode(t, lay(n, []string{"r"}, 1, row)); got != (n == 1) {
			t.Errorf("%d texts: %v", n, got)
		}
		if got := expectDecode(t, lay(1, []string{"r"}, 1, laidTable{name: 0, parent: 255, many: n})); got != (n == 0) {
			t.Errorf("%d entries: %v", n, got)
		}
	}
	for n := range 256 {
		if got := expectDecode(t, lay(1, []string{"r"}, n, row)); got != (n == 1) {
			t.Errorf("%d tables: %v", n, got)
		}
	}
}

// Bytes of bundles that would be but for one limit: as many texts, tables and entries as there may be, and one more.
func TestDecodeAtTheBounds(t *testing.T) {
	for _, n := range []int{15, 16, 17, 18, 255} {
		if got := expectDecode(t, encodeByWords(of(tables(n)...))); got != (n <= 16) {
			t.Errorf("%d tables: %v", n, got)
		}
	}
	for _, n := range []int{1023, 1024, 1025, 2000} {
		if got := expectDecode(t, encodeByWords(one(many("k", n, "")...))); got != (n <= 1024) {
			t.Errorf("%d entries: %v", n, got)
		}
	}
	b := full(1023)
	for i, name := range []string{"new", "newer", "newest"} {
		b.Tables = append(b.Tables, table(name, -1))
		n := len(allTexts(b))
		if got := expectDecode(t, encodeByWords(b)); n != 4095+i || got != (n <= 4096) {
			t.Errorf("%d texts: %v", n, got)
		}
	}
}

// Each byte of some bundles, by each other byte; each left out; each with another one ahead.
func TestDecodeChangedBytes(t *testing.T) {
	list := []api.Bundle{one(), of(root(), en()), one(text("a", ""), number("b", 1), alias("c", "b")), of(table("a", -1, text("b", "c")), table("b", 0, alias("c", "a")), table("c", 1))}
	taken := 0
	for _, b := range list {
		s := expectEncode(t, b)
		for at := range len(s) {
			expectDecode(t, s[:at]+s[at+1:])
			for n := range 256 {
				x := string([]byte{byte(n)})
				if expectDecode(t, s[:at]+x+s[at+1:]) && s[at:at+1] != x {
					taken++
				}
				expectDecode(t, s[:at]+x+s[at:])
			}
		}
	}
	if taken < 1000 {
		t.Error("too few changed bytes are those of a bundle:", taken)
	}
}

func TestDecodeByWords(t *testing.T) {
	r := source()
	tally := map[bool]int{}
	for range 30000 {
		s := []byte(encodeByWords(spoilt(r, someBundle(r))))
		for range r.IntN(3) {
			at := r.IntN(len(s))
			switch r.IntN(5) {
			case 0:
				s[at] = byte(r.UintN(256))
			case 1:
				s[at] ^= 1 << r.UintN(8)
			case 2:
				s[at] = byte(r.UintN(4))
			case 3:
				other := r.IntN(len(s))
				s[at], s[other] = s[other], s[at]
			case 4:
				s = slices.Insert(s, at, s[r.IntN(at+1):at]...)
			}
		}
		tally[expectDecode(t, string(s))]++
	}
	if tally[true] < 2000 || tally[false] < 2000 {
		t.Error("too few of a kind:", tally)
	}
}

// Bytes of which every count is the greatest one end in an error, however long they are.
func TestDecodeOfAnything(t *testing.T) {
	r := source()
	for _, n := range []int{1, 2, 3, 11, 100, 1000, 100000, 1 << 20} {
		for _, x := range []string{"\x00", "\x01", "\x00\x01", "\xff", "\x00\x10", "a"} {
			if _, err := bundle.Decode(repeat(x, n)); err != api.ErrBundleForm {
				t.Errorf("Decode of %d times %q: error %d", n, x, err)
			}
		}
	}
	for range 20000 {
		s := make([]byte, r.IntN(40))
		for i := range s {
			s[i] = byte(r.UintN(1 << r.UintN(9)))
		}
		expectDecode(t, string(s))
	}
}

// There and back, of bundles of every shape.
func TestThereAndBack(t *testing.T) {
	r := source()
	seen := map[string]string{}
	for range 5000 {
		b := someBundle(r)
		s := expectEncode(t, b)
		said := fmt.Sprintf("%#v", b)
		if was, ok := seen[s]; ok && was != said {
			t.Errorf("two bundles with the same bytes: %s, %s", was, said)
		}
		seen[s] = said
	}
}
