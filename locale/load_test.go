package locale_test

import (
	"fmt"
	"math/rand/v2"
	"slices"
	"strings"
	"testing"

	"quipu/api"
	"quipu/locale"
)

// P15.2

// without: the entries, but that of a key.
func without(list []api.Entry, keys ...string) []api.Entry {
	return slices.DeleteFunc(slices.Clone(list), func(e api.Entry) bool { return slices.Contains(keys, e.Key) })
}

// with: the entries, and others, each in the place of one of the same key, by rising keys.
func with(list []api.Entry, more ...api.Entry) []api.Entry {
	for _, e := range more {
		list = append(without(list, e.Key), e)
	}
	slices.SortFunc(list, func(a, b api.Entry) int { return strings.Compare(a.Key, b.Key) })
	return list
}

func one(list ...api.Entry) api.Bundle { return of(table("en", -1, list...)) }

func TestLoadExamples(t *testing.T) {
	list := entriesByWords(record())
	for _, key := range []string{"short/3/other", "coin/usd/symbol", "unit/km/short", "coin/USD/name"} {
		expectLoadError(t, one(with(list, text(key, "{0}"))...), "en", api.ErrLocaleKey)
	}
	expectLoadError(t, one(without(list, "decimal")...), "en", api.ErrLocaleKey)
	expectLoadError(t, one(with(list, text("mingroup", "1"))...), "en", api.ErrLocaleKey)
	expectLoadError(t, one(with(list, text("digits", "012345678"))...), "en", api.ErrLocaleForm)
	expectLoadError(t, one(with(list, number("mingroup", 5))...), "en", api.ErrLocaleForm)
	l := least()
	l.Coins = []api.Coin{{Code: "USD", Symbol: "US$", Narrow: "US$", Names: [6]string{api.Other: "{0} dollars"}, Digits: 3, Cash: 3}}
	expectLoad(t, of(table("x", -1, with(entriesByWords(least()), text("coin/USD/symbol", "US$"), number("coin/USD/digits", 3), text("coin/USD/other", "{0} dollars"))...)), "x", l)
}

func TestLoadOfNoBundle(t *testing.T) {
	list := entriesByWords(record())
	fine := table("en", -1, list...)
	for _, x := range []struct {
		b    api.Bundle
		want api.Errno
	}{
		{api.Bundle{}, api.ErrBundleMany},
		{of(table("", -1)), api.ErrBundleForm},
		{of(fine, table("\xff", -1)), api.ErrBundleForm},
		{of(fine, fine), api.ErrBundleOrder},
		{of(table("en", 0, list...)), api.ErrBundleOrder},
		{of(fine, table("child", 1)), api.ErrBundleOrder},
		{one(slices.Concat(list[1:], list[:1])...), api.ErrBundleOrder},
		{one(append(slices.Clone(list), list[len(list)-1])...), api.ErrBundleOrder},
		{one(with(list, text("zero", repeat("a", 1025)))...), api.ErrBundleForm},
		{one(with(list, api.Entry{Key: "zero", Kind: 3})...), api.ErrBundleForm},
		{one(with(list, number("mingroup", -1))...), api.ErrBundleForm},
		{one(with(list, alias("group", ""))...), api.ErrBundleForm},
		{of(fine, table("many", -1, manyEntries(1025)...)), api.ErrBundleMany},
	} {
		for _, name := range []string{"en", "", "nowhere"} {
			expectLoadError(t, x.b, name, x.want)
		}
	}
}

// manyEntries: so many, of keys that are not looked at.
func manyEntries(n int) []api.Entry {
	var list []api.Entry
	for i := range n {
		list = append(list, number(fmt.Sprintf("more/%04d", i), i))
	}
	return list
}

func TestLoadOfNoName(t *testing.T) {
	b := of(table("en", -1, entriesByWords(record())...), table("de", -1), table("é", 0))
	for _, name := range []string{"", "e", "EN", "en ", "en-GB", "fr", "\x00", "\xff", "digits", repeat("e", 1025)} {
		expectLoadError(t, b, name, api.ErrBundleName)
	}
	expectLoad(t, b, "en", record())
	expectLoadError(t, b, "de", api.ErrLocaleKey)
	l := record()
	l.Name = "é"
	expectLoad(t, b, "é", l)
}

// requiredKeys are those of record's entries that must be there, because of others that are.
func requiredKeys() []string {
	return []string{
		"digits", "decimal", "group", "minus", "plus", "percent", "permille", "exponent", "infinity", "nan", "approximately", "range", "mingroup",
		"pattern/decimal", "pattern/percent", "pattern/money", "pattern/accounting", "cardinal", "ordinal", "ranges", "spacing",
		"coin/EUR/symbol", "coin/EUR/digits", "coin/EUR/other", "coin/USD/symbol", "coin/USD/digits", "coin/USD/other",
		"unit/hour/short/other", "unit/hour/long/other", "unit/km/short/other", "unit/km/long/other",
	}
}

func TestLoadWithoutAKey(t *testing.T) {
	list := entriesByWords(record())
	for _, key := range requiredKeys() {
		if rest := without(list, key); len(rest) != len(list)-1 {
			t.Errorf("there is no entry %s", key)
		} else {
			expectLoadError(t, one(rest...), "en", api.ErrLocaleKey)
		}
	}
	for _, x := range []struct {
		key    string
		change func(l *api.Locale)
	}{
		{"short/03/one", func(l *api.Locale) { l.Short = l.Short[1:] }},
		{"short/05/other", func(l *api.Locale) { l.Short = l.Short[:2] }},
		{"long/06/other", func(l *api.Locale) { l.Long = nil }},
		{"coin/EUR/narrow", func(l *api.Locale) { l.Coins[0].Narrow = "€" }},
		{"coin/EUR/cash", func(l *api.Locale) { l.Coins[0].Cash = 2 }},
		{"coin/EUR/step", func(l *api.Locale) { l.Coins[0].CashStep = 0 }},
		{"coin/USD/narrow", func(l *api.Locale) { l.Coins[1].Narrow = "US$" }},
		{"coin/USD/cash", func(l *api.Locale) { l.Coins[1].Cash = 2 }},
		{"coin/USD/step", func(l *api.Locale) { l.Coins[1].CashStep = 0 }},
		{"coin/USD/one", func(l *api.Locale) { l.Coins[1].Names[api.One] = "" }},
		{"unit/hour/per", func(l *api.Locale) { l.Units[0].Per = "" }},
		{"unit/hour/long/one", func(l *api.Locale) { l.Units[0].Long[api.One] = "" }},
	} {
		if rest := without(list, x.key); len(rest) != len(list)-1 {
			t.Errorf("there is no entry %s", x.key)
		} else {
			l := record()
			x.change(&l)
			expectLoad(t, one(rest...), "en", l)
		}
	}
	if n := len(requiredKeys()) + 12 + 1; n != len(list) {
		t.Errorf("%d of %d entries are left out", n, len(list))
	}
	// Without the row of Other the Exp has none.
	expectLoadError(t, one(without(list, "short/03/other")...), "en", api.ErrLocaleForm)
	expectLoadError(t, one(without(list, "short/03/other", "nan")...), "en", api.ErrLocaleKey)
}

// otherKind: an entry of the same key that says something of the other kind.
func otherKind(e api.Entry) api.Entry {
	if e.Kind == api.EntryNumber {
		return text(e.Key, fmt.Sprint(e.Num))
	}
	return number(e.Key, 1)
}

func TestLoadOfTheOtherKind(t *testing.T) {
	list := entriesByWords(record())
	for _, e := range list {
		expectLoadError(t, one(with(list, otherKind(e))...), "en", api.ErrLocaleKey)
		behind := otherKind(e)
		behind.Key = "z/behind"
		expectLoadError(t, one(with(list, behind, alias(e.Key, "z/behind"))...), "en", api.ErrLocaleKey)
		behind = e
		behind.Key = "z/behind"
		expectLoad(t, one(with(list, behind, alias(e.Key, "z/behind"))...), "en", record())
	}
	for _, key := range []string{"coin/EUR/one", "coin/EUR/zero", "coin/USD/many", "unit/km/per", "unit/km/short/few", "unit/hour/long/two", "short/14/other", "long/03/other", "long/06/zero"} {
		expectLoadError(t, one(with(list, number(key, 0))...), "en", api.ErrLocaleKey)
	}
}

// Aliases that lead nowhere, or round and round.
func TestLoadOfKeysThatAreNotFound(t *testing.T) {
	list := entriesByWords(record())
	for _, e := range list {
		for _, other := range []string{"nowhere", e.Key, e.Key + "/", "z/loop"} {
			expectLoadError(t, one(with(list, alias(e.Key, other), alias("z/loop", e.Key))...), "en", api.ErrLocaleKey)
		}
		expectLoadError(t, one(with(list, alias(e.Key, "z/1"), alias("z/1", "z/2"), alias("z/2", "z/3"))...), "en", api.ErrLocaleKey)
	}
	for _, key := range []string{"coin/EUR/one", "coin/USD/zero", "unit/km/per", "unit/km/short/few", "short/03/zero", "long/03/other"} {
		expectLoadError(t, one(with(list, alias(key, "nowhere"))...), "en", api.ErrLocaleKey)
	}
	for n := 1; n <= 10; n++ {
		more := []api.Entry{alias("decimal", "z/0001"), text(fmt.Sprintf("z/%04d", n), ".")}
		for i := 1; i < n; i++ {
			more = append(more, alias(fmt.Sprintf("z/%04d", i), fmt.Sprintf("z/%04d", i+1)))
		}
		if n <= 8 {
			expectLoad(t, one(with(list, more...)...), "en", record())
		} else {
			expectLoadError(t, one(with(list, more...)...), "en", api.ErrLocaleKey)
		}
	}
}

func TestLoadOfKeysOfNoForm(t *testing.T) {
	list := entriesByWords(record())
	var keys []string
	for _, begin := range []string{"short/", "long/"} {
		for _, end := range []string{"", "/", "//", "3", "03", "03/", "/other", "3/other", "003/other", "030/other", "039/other", "061/other", "0x/other", "x3/other", "-3/other", "+3/other", " 3/other", "٠/other", "\x00\x00/other", "0:/other", "0//other", "03/Other", "03/others", "03/othe", "03/ other", "03/other/", "03/other/x", "03//other", "03/symbol", "03/per", "/03/other", "other", "other/03", "03/other "} {
			keys = append(keys, begin+end)
		}
	}
	for _, end := range []string{"", "/", "//", "USD", "USD/", "/symbol", "US/symbol", "USDX/symbol", "usd/symbol", "UsD/symbol", "US1/symbol", "US@/symbol", "US[/symbol", "É1/symbol", "US\u00c9/symbol", "   /symbol", "USD/name", "USD/Symbol", "USD/symbols", "USD/symbol/", "USD/symbol/x", "USD//symbol", "/USD/symbol", "USD/per", "USD/short", "USD/short/other", "USD/others", "USD/other/", "USD/Other", "USD/ one", "USD/C", "USD/cashstep", "USD/step/1"} {
		keys = append(keys, "coin/"+end)
	}
	for _, end := range []string{"", "/", "//", "km", "km/", "/per", "/short/other", "km/short", "km/short/", "km/long", "km/other", "km/one", "km/Short/other", "km/short/Other", "km/short/others", "km/short/other/", "km/short/other/x", "km//other", "km//short/other", "km/short//other", "KM/per", "kM/per", "k m/per", "k1/per", "k_m/per", "k`m/per", "k{m/per", "ké/per", "km/Per", "km/pers", "km/per/", "km/per/other", "km/symbol", "km/narrow/other", "k/m/per", repeat("a", 17) + "/per", repeat("a", 1000) + "/per"} {
		keys = append(keys, "unit/"+end)
	}
	for _, key := range keys {
		if isTableKey(key) {
			t.Errorf("%q is a key of the table", key)
		}
		for _, e := range []api.Entry{text(key, "{0}"), number(key, 1), alias(key, "decimal"), alias(key, "nowhere")} {
			expectLoadError(t, one(with(list, e)...), "en", api.ErrLocaleKey)
		}
		// Also where a parent has it; but not where a table has it that is no parent.
		expectLoadError(t, of(table("root", -1, text(key, "0")), table("en", 0, list...)), "en", api.ErrLocaleKey)
		expectLoad(t, of(table("root", -1, text(key, "0")), table("en", -1, list...)), "en", record())
	}
}

// All that a coin, or a unit, must have, of a Code or an Id that is none.
func TestLoadOfNamesOfNoForm(t *testing.T) {
	list := entriesByWords(record())
	for _, code := range []string{"", "US", "USDX", "usd", "UsD", "US1", "É1", "   ", "USD ", "US\x00", repeat("A", 900)} {
		begin := "coin/" + code + "/"
		expectLoadError(t, one(with(list, text(begin+"symbol", "s"), number(begin+"digits", 2), text(begin+"other", "{0}"))...), "en", api.ErrLocaleKey)
	}
	for _, id := range []string{"", "KM", "Km", "k m", "k1", "é", "km ", "k_m", "k\x00", repeat("a", 17), repeat("a", 900)} {
		begin := "unit/" + id + "/"
		expectLoadError(t, one(with(list, text(begin+"short/other", "{0}"), text(begin+"long/other", "{0}"))...), "en", api.ErrLocaleKey)
	}
}

// Whatever E, K and U are: keys of the table's form that make no record that may be.
func TestLoadOfKeysOfTheForm(t *testing.T) {
	list := entriesByWords(record())
	for exp := range 100 {
		key := fmt.Sprintf("long/%02d/other", exp)
		l := record()
		l.Long = append(l.Long, api.Compact{Exp: exp, Category: api.Other, Pattern: "0"})
		slices.SortFunc(l.Long, func(a, b api.Compact) int { return a.Exp - b.Exp })
		switch {
		case exp == 6:
		case exp < 3 || exp > 14:
			expectLoadError(t, one(with(list, text(key, "0"))...), "en", api.ErrLocaleForm)
			expectLoadError(t, one(with(list, number(key, 0))...), "en", api.ErrLocaleKey)
		default:
			expectLoad(t, one(with(list, text(key, "0"))...), "en", l)
		}
	}
	for _, code := range []string{"AAA", "ZZZ", "USA", "USE"} {
		l := record()
		l.Coins = append(l.Coins, api.Coin{Code: code, Symbol: "s", Narrow: "s", Names: [6]string{api.Other: "{0}"}})
		slices.SortFunc(l.Coins, func(a, b api.Coin) int { return strings.Compare(a.Code, b.Code) })
		begin := "coin/" + code + "/"
		expectLoad(t, one(with(list, text(begin+"symbol", "s"), number(begin+"digits", 0), text(begin+"other", "{0}"))...), "en", l)
	}
	for _, id := range []string{"-", "a", "z", "k", "kma", "km-", repeat("q", 16)} {
		l := record()
		l.Units = append(l.Units, api.Unit{Id: id, Short: [6]string{api.Other: "{0}s"}, Long: [6]string{api.Other: "{0}l"}})
		slices.SortFunc(l.Units, func(a, b api.Unit) int { return strings.Compare(a.Id, b.Id) })
		begin := "unit/" + id + "/"
		expectLoad(t, one(with(list, text(begin+"short/other", "{0}s"), text(begin+"long/other", "{0}l"))...), "en", l)
	}
}

// A coin, or a unit, of which there is one key alone, or all that it must have but one.
func TestLoadOfACoinOrAUnitThatLacksSomething(t *testing.T) {
	list := entriesByWords(record())
	for _, key := range []string{"symbol", "narrow", "zero", "one", "two", "few", "many", "other"} {
		expectLoadError(t, one(with(list, text("coin/GBP/"+key, "{0}"))...), "en", api.ErrLocaleKey)
	}
	for _, key := range []string{"digits", "cash", "step"} {
		expectLoadError(t, one(with(list, number("coin/GBP/"+key, 1))...), "en", api.ErrLocaleKey)
	}
	for _, key := range []string{"per", "short/one", "short/other", "long/one", "long/other"} {
		expectLoadError(t, one(with(list, text("unit/mile/"+key, "{0}"))...), "en", api.ErrLocaleKey)
	}
	whole := entriesByWords(full())
	for _, key := range []string{"coin/AAZ/symbol", "coin/AAZ/digits", "coin/AAZ/other", "coin/APZ/digits", "unit/u-a/short/other", "unit/u-a/long/other", "unit/u-p/long/other"} {
		if rest := without(whole, key); len(rest) == len(whole) {
			t.Errorf("there is no entry %s", key)
		} else {
			expectLoadError(t, one(rest...), "en", api.ErrLocaleKey)
		}
	}
	// All that a coin and a unit may leave out.
	l := least()
	l.Name = "en"
	l.Coins, l.Units = coins(16), units(16)
	rest := entriesByWords(l)
	for i := range l.Coins {
		c := &l.Coins[i]
		c.Narrow, c.Cash, c.CashStep = c.Symbol, c.Digits, 0
		rest = without(rest, "coin/"+c.Code+"/narrow", "coin/"+c.Code+"/cash", "coin/"+c.Code+"/step")
	}
	if len(rest) != 21+16*3+16*2 {
		t.Errorf("%d entries are left", len(rest))
	}
	expectLoad(t, one(rest...), "en", l)
}

// A key of a coin or a unit that is there and says what leaving it out would not say.
func TestLoadOfKeysThatSayNothing(t *testing.T) {
	list := entriesByWords(record())
	for _, key := range []string{"coin/USD/narrow", "coin/USD/other", "coin/USD/symbol", "unit/km/short/other", "unit/km/long/other", "short/03/one", "short/03/other", "decimal", "digits", "pattern/money"} {
		expectLoadError(t, one(with(list, text(key, ""))...), "en", api.ErrLocaleForm)
	}
	expectLoad(t, one(with(list, text("coin/EUR/one", ""), text("unit/km/short/few", ""), text("unit/km/long/zero", ""), text("unit/km/per", ""))...), "en", record())
	l := record()
	l.Coins[1].Cash, l.Coins[1].CashStep, l.Coins[1].Names[api.One], l.Units[0].Per = 0, 0, "", ""
	l.Spacing, l.Cardinal, l.Ordinal, l.Ranges = "", "", "", ""
	expectLoad(t, one(with(list, number("coin/USD/cash", 0), number("coin/USD/step", 0), text("coin/USD/one", ""), text("unit/hour/per", ""),
		text("spacing", ""), text("cardinal", ""), text("ordinal", ""), text("ranges", ""))...), "en", l)
}

func TestLoadOfKeysThatAreNotLookedAt(t *testing.T) {
	list := entriesByWords(record())
	for _, key := range []string{"a", "anything", "short", "long", "coin", "unit", "shorts/3/other", "coins/USD/symbol", "units", "xshort/3", "/short/03/other", "Short/3/other", "COIN/usd/symbol", " unit/km", "pattern", "pattern/", "pattern/other", "pattern/decimal/", "pattern/decimal/x", "patterns/decimal", "decimal/", "decimal/x", "decimals", "digit", "DIGITS", "mingroup/1", "symbol", "zero", "other", "narrow", "km/per", "per", "spacing ", "\x00", "é", "{0}"} {
		for _, e := range []api.Entry{text(key, "x"), text(key, ""), number(key, 77), alias(key, "decimal"), alias(key, "nowhere"), alias(key, key)} {
			expectLoad(t, one(with(list, e)...), "en", record())
		}
	}
	expectLoad(t, one(with(list, manyEntries(1024-len(list))...)...), "en", record())
}

// Keys are found up the parents; the nearest table counts, and an alias is followed from the name's own table on.
func TestLoadUpTheParents(t *testing.T) {
	list := entriesByWords(record())
	for n := 1; n < 16; n++ {
		tables := make([]api.Table, n)
		for i := range tables {
			tables[i] = table(fmt.Sprint("t", i), i-1)
		}
		for i, e := range list {
			tables[i%n].Entries = append(tables[i%n].Entries, e)
		}
		l := record()
		l.Name = fmt.Sprint("t", n-1)
		expectLoad(t, of(tables...), l.Name, l)
		if n > 1 {
			expectLoadError(t, of(tables...), "t0", api.ErrLocaleKey)
		}
	}
	root := table("root", -1, list...)
	child := func(name string, entries ...api.Entry) api.Table {
		return table(name, 0, with(nil, entries...)...)
	}
	expect := func(change func(l *api.Locale), entries ...api.Entry) {
		t.Helper()
		l := record()
		l.Name = "child"
		change(&l)
		expectLoad(t, of(root, child("child", entries...), child("other", text("decimal", "!"))), "child", l)
	}
	expect(func(l *api.Locale) { l.Symbols.Group = "." }, alias("group", "decimal"))
	expect(func(l *api.Locale) { l.Symbols.Decimal, l.Symbols.Group = ",", "," }, text("decimal", ","), alias("group", "decimal"))
	expect(func(l *api.Locale) { l.Symbols.Decimal = "," }, alias("decimal", "group"))
	expect(func(l *api.Locale) { l.Symbols.Decimal, l.Symbols.Group = "'", "'" }, alias("decimal", "group"), text("group", "'"))
	expect(func(l *api.Locale) { l.MinGroup, l.Coins[1].Digits = 1, 5 }, alias("mingroup", "coin/USD/cash"), number("coin/USD/digits", 5))
	expect(func(l *api.Locale) {
		l.Long = []api.Compact{{Exp: 3, Category: api.Other, Pattern: "0Ks"}, {Exp: 6, Category: api.Other, Pattern: "000K"}}
	}, alias("long/03/other", "short/03/other"), alias("long/06/other", "short/05/other"))
}

func TestLoadWhatComesFirst(t *testing.T) {
	list := entriesByWords(record())
	wrongForms := [][]api.Entry{
		{text("digits", "012345678")}, {number("mingroup", 0)}, {text("decimal", "")}, {text("pattern/money", "0")}, {text("cardinal", "x")}, {text("spacing", repeat("a", 65))},
		{text("short/02/other", "0")}, {text("long/03/one", "0")}, {text("coin/USD/symbol", "")}, {number("coin/USD/digits", 10)}, {text("unit/km/per", "x")},
	}
	wrongKeys := [][]api.Entry{
		{text("mingroup", "1")}, {number("digits", 1)}, {alias("nan", "nowhere")}, {alias("range", "range")}, {text("short/3/other", "0")}, {number("long/03/other", 1)},
		{text("coin/usd/symbol", "x")}, {text("coin/GBP/symbol", "x")}, {text("coin/USD/step", "5")}, {text("unit/km/short", "x")}, {text("unit/mile/per", "{0}")}, {number("unit/km/per", 1)},
	}
	for _, form := range wrongForms {
		expectLoadError(t, one(with(list, form...)...), "en", api.ErrLocaleForm)
		for _, key := range wrongKeys {
			both := with(with(list, form...), key...)
			expectLoadError(t, one(with(list, key...)...), "en", api.ErrLocaleKey)
			expectLoadError(t, one(both...), "en", api.ErrLocaleKey)
			expectLoadError(t, one(both...), "fr", api.ErrBundleName)
			expectLoadError(t, of(table("en", -1, both...), table("en", -1)), "en", api.ErrBundleOrder)
			expectLoadError(t, of(table("en", -1, both...), table("en", -1)), "fr", api.ErrBundleOrder)
		}
		for _, key := range []string{"plus", "pattern/accounting", "ordinal", "coin/EUR/digits", "unit/hour/long/other"} {
			expectLoadError(t, one(without(with(list, form...), key)...), "en", api.ErrLocaleKey)
		}
	}
	// A name of a table is a record's Name that may be, always.
	l := record()
	l.Name = repeat("n", 1024)
	expectLoad(t, of(table(l.Name, -1, list...)), l.Name, l)
}

func TestLoadDigits(t *testing.T) {
	list := entriesByWords(record())
	for _, first := range []rune{'0', 'A', '٠', '€', '\U0001D7CE', 0, 0x7a, 0x7fa, 0xfffa} {
		all := strings.Join(slices.Collect(runesFrom(first, 10)), "")
		l := record()
		l.Symbols.Digits = digitsFrom(first)
		expectLoad(t, one(with(list, text("digits", all))...), "en", l)
		for _, n := range []int{0, 1, 2, 5, 8, 9, 11, 12, 20, 100} {
			some := strings.Join(slices.Collect(runesFrom(first, n)), "")
			expectLoadError(t, one(with(list, text("digits", some))...), "en", api.ErrLocaleForm)
		}
		expectLoadError(t, one(with(list, text("digits", all+" "))...), "en", api.ErrLocaleForm)
	}
	for _, s := range []string{"0123456780", "0000000000", "éééééééééé", "01234é6é89", "0123456789\u0301", "é1234567", "€€€12345"} {
		expectLoadError(t, one(with(list, text("digits", s))...), "en", api.ErrLocaleForm)
	}
	l := record()
	l.Symbols.Digits = [10]string{"a", "é", "€", "\U0001F600", "0", "\x00", " ", "\u0301", "{", "9"}
	expectLoad(t, one(with(list, text("digits", "aé€\U0001F6000\x00 \u0301{9"))...), "en", l)
}

// runesFrom: so many runes, each a text, from one on.
func runesFrom(first rune, n int) func(yield func(string) bool) {
	return func(yield func(string) bool) {
		for i := range n {
			if !yield(string(first + rune(i))) {
				return
			}
		}
	}
}

// One bound of a record is crossed by an entry: the bundle may be, the record may not.
func TestLoadOfARecordThatMayNotBe(t *testing.T) {
	list := entriesByWords(record())
	for _, e := range []api.Entry{
		text("decimal", ""), text("group", repeat("a", 65)), text("approximately", "~"), text("approximately", "{0}{0}"), text("range", "{0}{1}"), text("range", "{1}-{0}"),
		number("mingroup", 0), number("mingroup", 5), number("mingroup", 1<<32-1), text("pattern/decimal", ""), text("pattern/decimal", "*x0"), text("pattern/percent", "0"), text("pattern/money", "0;0¤"), text("pattern/accounting", "0"),
		text("cardinal", "one"), text("ordinal", repeat("x", 1024)), text("ranges", "one"), text("spacing", repeat("a", 65)),
		text("short/03/one", "00K"), text("short/05/other", "0.0K"), text("short/05/other", "-0"), text("short/05/one", "00"), text("long/06/other", "00000000"), text("long/06/other", "0;0"),
		text("coin/USD/symbol", repeat("a", 65)), text("coin/USD/narrow", ""), text("coin/USD/one", "x"), number("coin/USD/digits", 10), number("coin/USD/cash", 10), number("coin/USD/step", 1000), number("coin/USD/step", 1<<32-1),
		text("unit/km/short/other", "x"), text("unit/km/long/few", "{0}{0}"), text("unit/km/per", "/km"), text("unit/km/per", "{0}"+repeat("a", 62)),
	} {
		expectLoadError(t, one(with(list, e)...), "en", api.ErrLocaleForm)
	}
	for n := 14; n <= 19; n++ {
		l, m := record(), record()
		l.Coins, m.Units = coins(n), units(n)
		for _, x := range []api.Locale{l, m} {
			if n <= 16 {
				expectLoad(t, one(entriesByWords(x)...), "en", x)
			} else {
				expectLoadError(t, one(entriesByWords(x)...), "en", api.ErrLocaleForm)
			}
		}
	}
	for _, n := range []int{18, 24, 30, 72} {
		l, m := record(), record()
		l.Short, m.Long = rows(n, 6), rows(n, 6)
		for _, x := range []api.Locale{l, m} {
			if n <= 24 {
				expectLoad(t, one(entriesByWords(x)...), "en", x)
			} else {
				expectLoadError(t, one(entriesByWords(x)...), "en", api.ErrLocaleForm)
			}
		}
	}
}

// someKey is one of the table, or nearly.
func someKey(r *rand.Rand) string {
	word := oneOf(r, "zero", "one", "few", "other", "other", "symbol", "narrow", "digits", "cash", "step", "per", "name")
	switch r.IntN(5) {
	case 0:
		return oneOf(r, "short", "long") + "/" + oneOf(r, "03", "03", "04", "05", "06", "14", "15", "02", "3") + "/" + word
	case 1:
		return "coin/" + oneOf(r, "USD", "USD", "EUR", "AAA", "usd") + "/" + word
	case 2:
		return "unit/" + oneOf(r, "km", "km", "hour", "a-b", "KM") + "/" + oneOf(r, "short/", "long/", "") + word
	case 3:
		return oneOf(r, requiredKeys()...)
	}
	return oneOf(r, "z/1", "z/2", "any", "pattern/x", word)
}

func someEntry(r *rand.Rand) api.Entry {
	key := someKey(r)
	if r.IntN(5) == 0 {
		return alias(key, someKey(r))
	}
	if numberWords.MatchString(key) != (r.IntN(12) == 0) {
		return number(key, r.IntN(4))
	}
	return text(key, oneOf(r, "{0}", "{0} x", "0", "00", "0%", "0¤", "{0}-{1}", "", "one: n = 1"))
}

// someFamily: the entries of a record, some of them up the parents, with some others.
func someFamily(r *rand.Rand) api.Bundle {
	n := 1 + r.IntN(4)
	tables := make([]api.Table, n)
	for i := range tables {
		tables[i] = table(fmt.Sprint("t", i), i-1)
	}
	for _, e := range entriesByWords(someRecord(r)) {
		t := &tables[r.IntN(n)]
		t.Entries = append(t.Entries, e)
		if r.IntN(400) == 0 {
			t.Entries = t.Entries[:len(t.Entries)-1]
		}
	}
	for range r.IntN(4) {
		t := &tables[r.IntN(n)]
		t.Entries = with(t.Entries, someEntry(r))
	}
	if r.IntN(20) == 0 {
		tables[n-1].Parent = r.IntN(n) - 1
	}
	return of(tables...)
}

func TestLoadByWords(t *testing.T) {
	r := source()
	tally := map[api.Errno]int{}
	for range 4000 {
		b := someFamily(r)
		for _, name := range []string{fmt.Sprint("t", len(b.Tables)-1), oneOf(r, "t0", "t1", "t2", "t3")} {
			want, wantErr := loadByWords(b, name)
			tally[wantErr]++
			expectLoaded(t, b, name, want, wantErr)
		}
		if t.Failed() {
			return
		}
	}
	if min(tally[api.OK], tally[api.ErrLocaleKey], tally[api.ErrLocaleForm], tally[api.ErrBundleName]) < 200 {
		t.Error("too few of a kind:", tally)
	}
}

// A bundle as great as one may be, of which nothing is wrong up to the last coin.
func TestLoadOfAGreatBundle(t *testing.T) {
	tables := []api.Table{table("root", -1, entriesByWords(full())...)}
	for i := 1; i < 16; i++ {
		tables = append(tables, table(fmt.Sprint("t", i), i-1, manyEntries(1024)...))
	}
	l := full()
	l.Name = "t15"
	expectLoad(t, of(tables...), "t15", l)
	tables[15].Entries = with(nil, number("coin/ZZZ/digits", 0), text("coin/ZZZ/symbol", "z"))
	expectLoadError(t, of(tables...), "t15", api.ErrLocaleKey)
	tables[15].Entries = with(tables[15].Entries, text("coin/ZZZ/other", "{0}"))
	expectLoadError(t, of(tables...), "t15", api.ErrLocaleForm)
	if _, err := locale.Load(of(tables...), "root"); err != api.OK {
		t.Error("Load of the root:", err)
	}
}
