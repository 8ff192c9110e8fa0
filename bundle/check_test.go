package bundle_test

import (
	"fmt"
	"math"
	"slices"
	"testing"

	"quipu/api"
	"quipu/bundle"
)

// P12.1

func TestCheckExamples(t *testing.T) {
	expectCheck(t, "none", of(), api.ErrBundleMany)
	expectCheck(t, "(E)", of(en()), api.ErrBundleOrder)
	expectCheck(t, "(R, E)", of(root(), en()), api.OK)
	expectCheck(t, "(R, R)", of(root(), root()), api.ErrBundleOrder)
	expectCheck(t, "an empty list", api.Bundle{Tables: []api.Table{}}, api.ErrBundleMany)
}

// tables: so many, each the parent of the next.
func tables(n int) []api.Table {
	var list []api.Table
	for i := range n {
		list = append(list, table(fmt.Sprint("t", i), i-1))
	}
	return list
}

func TestCheckManyTables(t *testing.T) {
	for n := range 40 {
		want := api.OK
		if n == 0 || n > 16 {
			want = api.ErrBundleMany
		}
		expectCheck(t, fmt.Sprint(n, " tables"), of(tables(n)...), want)
	}
	expectCheck(t, "300 tables", of(tables(300)...), api.ErrBundleMany)
}

func TestCheckManyEntries(t *testing.T) {
	for _, n := range []int{0, 1, 1023, 1024, 1025, 2000, 65536} {
		want := api.OK
		if n > 1024 {
			want = api.ErrBundleMany
		}
		entries := many("k", n, "")
		for place := range 3 {
			list := tables(3)
			list[place].Entries = entries
			expectCheck(t, fmt.Sprint(n, " entries in table ", place), of(list...), want)
		}
	}
}

// full: two tables with 2 n texts, all of them different, and the names; and two tables more with none that is new.
func full(n int) api.Bundle {
	b := of(table("one", -1), table("two", 0), table("a0000", 1), table("a0001", -1))
	for at, begin := range []string{"a", "b"} {
		for i, e := range many(begin, n, "") {
			e.Text = fmt.Sprintf("text %s%d", begin, i)
			b.Tables[at].Entries = append(b.Tables[at].Entries, e)
		}
	}
	b.Tables[2].Entries = slices.Clone(b.Tables[0].Entries)
	b.Tables[3].Entries = many("a", n, "one")
	return b
}

// 4096 texts, each counted once, and just one more of each kind.
func TestCheckManyTexts(t *testing.T) {
	b := full(1023)
	if n := len(allTexts(b)); n != 4094 {
		t.Fatal("texts:", n)
	}
	expectCheck(t, "4094 texts", b, api.OK)
	more := func(tables ...api.Table) api.Bundle { return of(append(slices.Clone(b.Tables), tables...)...) }
	for _, x := range []struct {
		what string
		b    api.Bundle
		want api.Errno
	}{
		{"4095, by a name", more(table("new", -1)), api.OK},
		{"4096, by names", more(table("new", -1), table("newer", -1)), api.OK},
		{"4097, by names", more(table("new", -1), table("newer", -1), table("newest", 0)), api.ErrBundleMany},
		{"4096, by a name and a key", more(table("new", -1, text("key", "one"))), api.OK},
		{"4096, by a name that is its key and a text", more(table("new", -1, text("new", "text"))), api.OK},
		{"4096, by a name and the empty text", more(table("new", -1, text("a0002", ""))), api.OK},
		{"4097, by the empty text", more(table("new", -1, text("key", ""))), api.ErrBundleMany},
		{"4097, by a key", more(table("new", -1, text("key", "one"), text("kez", "one"))), api.ErrBundleMany},
		{"4097, by a text", more(table("new", -1, text("a0002", "said"), text("a0003", "told"))), api.ErrBundleMany},
		{"4097, by an alias", more(table("new", -1, text("key", "one"), alias("new", "somewhere"))), api.ErrBundleMany},
		{"4096, with numbers", more(table("new", -1, number("a0002", 5), number("key", 1<<32-1), number("new", 3))), api.OK},
		{"4097, by a number's key", more(table("new", -1, number("key", 5), number("kez", 5))), api.ErrBundleMany},
	} {
		expectCheck(t, x.what, x.b, x.want)
	}
}

// Where no text comes twice, it is the names, the keys and what they say that count.
func TestCheckTextsAllDifferent(t *testing.T) {
	for _, x := range []struct {
		tables, entries int
		want            api.Errno
	}{{2, 2047, api.OK}, {2, 2048, api.ErrBundleMany}, {3, 2046, api.OK}, {3, 2047, api.ErrBundleMany}, {4, 2046, api.OK}, {4, 2047, api.ErrBundleMany}, {16, 2040, api.OK}, {16, 2041, api.ErrBundleMany}} {
		list := tables(x.tables)
		for i := range x.entries {
			said := alias(fmt.Sprintf("k%05d", i), fmt.Sprint("text ", i))
			list[i/1024].Entries = append(list[i/1024].Entries, said)
		}
		if n := len(allTexts(of(list...))); n != x.tables+2*x.entries {
			t.Fatal("texts:", n)
		}
		expectCheck(t, fmt.Sprint(x.tables, " tables with ", x.entries, " entries"), of(list...), x.want)
	}
}

// Sixteen full tables say few texts, or as many as there can be.
func TestCheckFullTables(t *testing.T) {
	few, lots := tables(16), tables(16)
	for i := range 16 {
		few[i].Entries = many("k", 1024, "k0003")
		lots[i].Entries = many(fmt.Sprint("k", i, "/"), 1024, "")
	}
	expectCheck(t, "sixteen times the same entries", of(few...), api.OK)
	expectCheck(t, "four times other entries", of(lots[:4]...), api.ErrBundleMany)
	expectCheck(t, "three times other entries", of(lots[:3]...), api.OK)
	expectCheck(t, "sixteen times other entries", of(lots...), api.ErrBundleMany)
}

// named: texts that a name or a key may not be, and others that it may.
func named() []struct {
	s    string
	want api.Errno
} {
	return []struct {
		s    string
		want api.Errno
	}{
		{"", api.ErrBundleForm}, {"a", api.OK}, {"\x00", api.OK}, {" ", api.OK}, {"\x7f", api.OK}, {"é", api.OK}, {"\U0010ffff", api.OK},
		{"\x80", api.ErrBundleForm}, {"\xff", api.ErrBundleForm}, {"a\xc3", api.ErrBundleForm}, {"\xc0\x80", api.ErrBundleForm}, {"\xed\xa0\x80", api.ErrBundleForm}, {"\xf4\x90\x80\x80", api.ErrBundleForm}, {"ok\xe2\x82", api.ErrBundleForm},
		{repeat("a", 1023), api.OK}, {repeat("a", 1024), api.OK}, {repeat("a", 1025), api.ErrBundleForm}, {repeat("a", 65537), api.ErrBundleForm},
		{repeat("é", 512), api.OK}, {repeat("é", 513), api.ErrBundleForm}, {repeat("a", 1023) + "\xff", api.ErrBundleForm}, {repeat("€", 341) + "a", api.OK}, {repeat("€", 342), api.ErrBundleForm},
	}
}

func TestCheckNamesAndKeys(t *testing.T) {
	for _, x := range named() {
		expectCheck(t, "the name "+short(x.s), of(table(x.s, -1)), x.want)
		expectCheck(t, "the second name "+short(x.s), of(root(), table(x.s, 0)), x.want)
		expectCheck(t, "the key "+short(x.s), one(text(x.s, "x")), x.want)
		expectCheck(t, "a number's key "+short(x.s), one(number(x.s, 5)), x.want)
		expectCheck(t, "the alias "+short(x.s), one(alias("k", x.s)), x.want)
		if x.s != "" {
			expectCheck(t, "the text "+short(x.s), one(text("k", x.s)), x.want)
		}
	}
	expectCheck(t, "the empty text", one(text("k", "")), api.OK)
}

func TestCheckNamesThatComeTwice(t *testing.T) {
	for i := range 16 {
		for j := range 16 {
			list := tables(16)
			list[i].Name = list[j].Name
			want := api.ErrBundleOrder
			if i == j {
				want = api.OK
			}
			expectCheck(t, fmt.Sprint("the name ", j, " at ", i), of(list...), want)
		}
	}
	expectCheck(t, "names that are nearly the same", of(table("en", -1), table("EN", -1), table("en ", -1), table("e", -1), table("en\x00", -1)), api.OK)
}

func TestCheckParents(t *testing.T) {
	for place := range 16 {
		for _, parent := range []int{math.MinInt, -256, -3, -2, -1, 0, 1, place - 1, place, place + 1, 15, 16, 255, 256, 1 << 32, 1<<32 - 1, math.MaxInt} {
			list := tables(16)
			list[place].Parent = parent
			want := api.ErrBundleOrder
			if parent == -1 || parent >= 0 && parent < place {
				want = api.OK
			}
			expectCheck(t, fmt.Sprint("the parent ", parent, " of ", place), of(list...), want)
		}
	}
}

// Keys are held against each other byte by byte, not by letters, nor by lengths.
func TestCheckKeysRise(t *testing.T) {
	keys := []string{"\x00", "\x00\x00", "0", "10", "2", "A", "Z", "a", "a\x00", "a/", "a/b", "aa", "ab", "b", "z", "\x7f", "\u0080", "ß", "é", "é/", "€", "\ud7ff", "\ue000", "\uffff", "\U00010000", "\U0010ffff"}
	var all []api.Entry
	for i, x := range keys {
		all = append(all, text(x, ""))
		for j, y := range keys {
			want := api.ErrBundleOrder
			if i < j {
				want = api.OK
			}
			expectCheck(t, fmt.Sprintf("the keys %q, %q", x, y), one(text(x, ""), number(y, 1)), want)
			if i != 0 && j != len(keys)-1 {
				expectCheck(t, fmt.Sprintf("the keys %q, %q between others", x, y), one(text(keys[0], ""), text(x, ""), alias(y, "a"), text(keys[len(keys)-1], "")), want)
			}
		}
	}
	expectCheck(t, "all keys", one(all...), api.OK)
}

// Each table's keys rise by themselves.
func TestCheckKeysOfEachTable(t *testing.T) {
	expectCheck(t, "lower keys in a child", of(table("r", -1, text("x", ""), text("y", "")), table("s", 0, text("a", ""), text("y", ""))), api.OK)
	expectCheck(t, "keys that fall in a child", of(root(), table("s", 0, text("b", ""), text("a", ""))), api.ErrBundleOrder)
	expectCheck(t, "keys that fall in the parent", of(table("s", -1, text("b", ""), text("a", "")), table("t", 0, text("b", ""))), api.ErrBundleOrder)
}

func TestCheckKinds(t *testing.T) {
	may := func(e api.Entry) bool {
		switch e.Kind {
		case 0:
			return e.Num == 0 && (e.Text == "" || e.Text == "x")
		case 1:
			return e.Num >= 0 && e.Num < 1<<32 && e.Text == ""
		}
		return e.Kind == 2 && e.Num == 0 && e.Text == "x"
	}
	for _, kind := range []int{math.MinInt, -256, -2, -1, 0, 1, 2, 3, 4, 255, 256, 257, 258, 1 << 32, 1<<32 + 1, math.MaxInt} {
		for _, said := range []string{"", "x", "\xff", repeat("x", 1025)} {
			for _, n := range []int{math.MinInt, -1 << 32, -2, -1, 0, 1, 2, 255, 256, 1<<31 - 1, 1 << 31, 1<<32 - 1, 1 << 32, 1<<32 + 1, 1 << 33, math.MaxInt} {
				e := api.Entry{Key: "k", Kind: kind, Text: said, Num: n}
				want := api.ErrBundleForm
				if may(e) {
					want = api.OK
				}
				expectCheck(t, short(e), one(e), want)
				expectCheck(t, short(e)+" between others", one(text("a", "b"), e, number("z", 1)), want)
			}
		}
	}
}

// Of several that are wrong, the promise's first one: first what is counted, then by tables, then by entries; the texts last.
func TestCheckWhichError(t *testing.T) {
	fall := []api.Entry{text("b", ""), text("a", "")}
	noKind := api.Entry{Key: "k", Kind: 3}
	lots := tables(5)
	for i := range 5 {
		lots[i].Entries = many(fmt.Sprint("k", i, "/"), 1024, "")
	}
	with := func(place int, t api.Table) api.Bundle {
		list := slices.Clone(lots)
		list[place] = t
		return of(list...)
	}
	for _, x := range []struct {
		what string
		b    api.Bundle
		want api.Errno
	}{
		{"too many entries behind a bad name", of(table("", -1), table("s", -1, many("k", 1025, "")...)), api.ErrBundleMany},
		{"too many entries behind a bad parent", of(table("r", 9), table("s", -1, many("k", 1025, "")...)), api.ErrBundleMany},
		{"too many entries that fall", one(append(many("k", 1024, ""), fall...)...), api.ErrBundleMany},
		{"too many tables, all bad", of(make([]api.Table, 17)...), api.ErrBundleMany},
		{"sixteen tables, all bad", of(make([]api.Table, 16)...), api.ErrBundleForm},
		{"a bad name ahead of its bad parent", of(table("", -2)), api.ErrBundleForm},
		{"a long name with a bad parent", of(table(repeat("x", 1025), 0)), api.ErrBundleForm},
		{"a bad parent ahead of a bad name", of(table("r", 0), table("", -1)), api.ErrBundleOrder},
		{"a bad name ahead of a bad parent", of(table("\xff", -1), table("r", 1)), api.ErrBundleForm},
		{"a bad name that comes twice", of(table("\xff", -1), table("\xff", -1)), api.ErrBundleForm},
		{"a name that comes twice, with bad entries", of(root(), table("root", -1, noKind)), api.ErrBundleOrder},
		{"a bad parent with bad entries", of(table("r", 0, text("", ""))), api.ErrBundleOrder},
		{"a bad name with entries that fall", of(table("", -1, fall...)), api.ErrBundleForm},
		{"bad entries ahead of a bad table", of(table("r", -1, fall...), table("", 7)), api.ErrBundleOrder},
		{"a bad kind ahead of a name that comes twice", of(table("r", -1, noKind), table("r", -1)), api.ErrBundleForm},
		{"a name that comes twice ahead of a bad kind", of(table("r", -1), table("r", -1), table("s", -1, noKind)), api.ErrBundleOrder},
		{"an empty key that falls", one(text("a", ""), text("", "")), api.ErrBundleForm},
		{"a bad key of a bad kind", one(api.Entry{Key: "\xff", Kind: 9}, text("a", "")), api.ErrBundleForm},
		{"a key that is no UTF-8 and rises, ahead of one that falls", one(text("\xfe", ""), text("a", "")), api.ErrBundleForm},
		{"a key that stands still, of a bad kind", one(text("k", ""), noKind), api.ErrBundleOrder},
		{"a key that falls, of a bad kind", one(text("l", ""), noKind), api.ErrBundleOrder},
		{"a key that falls, with a bad text", one(text("l", ""), text("k", "\xff")), api.ErrBundleOrder},
		{"a bad kind ahead of a key that falls", one(noKind, text("a", "")), api.ErrBundleForm},
		{"a bad number ahead of a key that falls", one(number("k", -1), text("a", "")), api.ErrBundleForm},
		{"a key that falls ahead of a bad kind", one(text("b", ""), text("a", ""), noKind), api.ErrBundleOrder},
		{"a key that falls ahead of an empty one", one(text("b", ""), text("a", ""), text("", "")), api.ErrBundleOrder},
		{"too many texts", of(lots...), api.ErrBundleMany},
		{"too many texts, and a bad kind", with(4, table("t4", -1, noKind)), api.ErrBundleForm},
		{"too many texts, and keys that fall", with(4, table("t4", -1, fall...)), api.ErrBundleOrder},
		{"too many texts, and a bad name", with(4, table("", -1)), api.ErrBundleForm},
		{"too many texts, and a bad parent", with(4, table("t4", 4)), api.ErrBundleOrder},
	} {
		expectCheck(t, x.what, x.b, x.want)
	}
}

// Whatever is wrong, in whichever tables and entries.
func TestCheckByWords(t *testing.T) {
	r := source()
	tally := map[api.Errno]int{}
	for range 20000 {
		b := someBundle(r)
		for range r.IntN(4) {
			b = spoilt(r, b)
		}
		want := checkByWords(b)
		if err := bundle.Check(b); err != want {
			t.Errorf("Check of %s: %d, not %d", short(b), err, want)
		}
		tally[want]++
	}
	for _, err := range []api.Errno{api.OK, api.ErrBundleForm, api.ErrBundleOrder} {
		if tally[err] < 2000 {
			t.Error("too few of a kind:", err, tally)
		}
	}
}
