package locale_test

import (
	"slices"
	"testing"

	"quipu/api"
	"quipu/locale"
)

// P15.3 (and all of expectCheck in P15.1)

func expectEntries(t *testing.T, l api.Locale, want ...api.Entry) {
	t.Helper()
	if list, err := locale.Entries(l); err != api.OK || !slices.Equal(list, want) {
		t.Errorf("Entries of %s: %s, error %d, not %s", short(l), short(list), err, short(want))
	}
}

// The entries of the least record, written out.
func leastEntries() []api.Entry {
	return []api.Entry{
		text("approximately", "~{0}"), text("cardinal", ""), text("decimal", "."), text("digits", "0123456789"), text("exponent", "E"), text("group", ","), text("infinity", "∞"),
		number("mingroup", 1), text("minus", "-"), text("nan", "NaN"), text("ordinal", ""),
		text("pattern/accounting", "0¤"), text("pattern/decimal", "0"), text("pattern/money", "¤0"), text("pattern/percent", "0%"),
		text("percent", "%"), text("permille", "‰"), text("plus", "+"), text("range", "{0}–{1}"), text("ranges", ""), text("spacing", ""),
	}
}

func TestEntriesOfTheLeastRecord(t *testing.T) {
	expectEntries(t, least(), leastEntries()...)
}

func TestEntriesOfEveryPlainField(t *testing.T) {
	l := least()
	s := &l.Symbols
	s.Digits = digitsFrom('٠')
	for i, place := range plainSymbols(s) {
		*place = string(rune('a' + i))
	}
	s.Approximately, s.Range, l.MinGroup, l.Spacing = "{0}j", "{0}k{1}", 4, "l"
	l.DecimalPattern, l.PercentPattern, l.MoneyPattern, l.AccountingPattern = "##0", "%0", "¤¤0", "¤0;(0)"
	l.Cardinal, l.Ordinal, l.Ranges = "one:n=1", "two:n=2", "one+two:few"
	expectEntries(t, l,
		text("approximately", "{0}j"), text("cardinal", "one:n=1"), text("decimal", "a"), text("digits", "٠١٢٣٤٥٦٧٨٩"), text("exponent", "g"), text("group", "b"), text("infinity", "h"),
		number("mingroup", 4), text("minus", "c"), text("nan", "i"), text("ordinal", "two:n=2"),
		text("pattern/accounting", "¤0;(0)"), text("pattern/decimal", "##0"), text("pattern/money", "¤¤0"), text("pattern/percent", "%0"),
		text("percent", "e"), text("permille", "f"), text("plus", "d"), text("range", "{0}k{1}"), text("ranges", "one+two:few"), text("spacing", "l"))
}

// expectMore: the entries of the least record, and these.
func expectMore(t *testing.T, l api.Locale, more ...api.Entry) {
	t.Helper()
	expectEntries(t, l, with(leastEntries(), more...)...)
}

func TestEntriesOfRows(t *testing.T) {
	l := least()
	l.Short = []api.Compact{row(3, api.Zero, "0a"), row(3, api.One, "0b"), row(3, api.Two, "0c"), row(3, api.Few, "0d"), row(3, api.Many, "0e"), row(3, api.Other, "0f"), row(9, api.Other, "##0"), row(10, api.Other, "'K'00")}
	l.Long = []api.Compact{row(4, api.Other, "0x"), row(14, api.One, "0y"), row(14, api.Other, "0z")}
	expectMore(t, l,
		text("short/03/zero", "0a"), text("short/03/one", "0b"), text("short/03/two", "0c"), text("short/03/few", "0d"), text("short/03/many", "0e"), text("short/03/other", "0f"),
		text("short/09/other", "##0"), text("short/10/other", "'K'00"), text("long/04/other", "0x"), text("long/14/one", "0y"), text("long/14/other", "0z"))
}

// Of a coin all numbers and both symbols, of its forms those that are there.
func TestEntriesOfCoins(t *testing.T) {
	l := least()
	l.Coins = []api.Coin{
		{Code: "AAA", Symbol: "s", Narrow: "s", Names: [6]string{api.Other: "{0}"}},
		{Code: "ZZZ", Symbol: "t", Narrow: "n", Names: [6]string{"{0}0", "{0}1", "{0}2", "{0}3", "{0}4", "{0}5"}, Digits: 9, Cash: 8, CashStep: 999},
	}
	expectMore(t, l,
		text("coin/AAA/symbol", "s"), text("coin/AAA/narrow", "s"), number("coin/AAA/digits", 0), number("coin/AAA/cash", 0), number("coin/AAA/step", 0), text("coin/AAA/other", "{0}"),
		text("coin/ZZZ/symbol", "t"), text("coin/ZZZ/narrow", "n"), number("coin/ZZZ/digits", 9), number("coin/ZZZ/cash", 8), number("coin/ZZZ/step", 999),
		text("coin/ZZZ/zero", "{0}0"), text("coin/ZZZ/one", "{0}1"), text("coin/ZZZ/two", "{0}2"), text("coin/ZZZ/few", "{0}3"), text("coin/ZZZ/many", "{0}4"), text("coin/ZZZ/other", "{0}5"))
}

func TestEntriesOfUnits(t *testing.T) {
	l := least()
	l.Units = []api.Unit{
		{Id: "-", Short: [6]string{api.Other: "{0}"}, Long: [6]string{api.Other: "{0}l"}},
		{Id: "km", Short: [6]string{"{0}0", "{0}1", "{0}2", "{0}3", "{0}4", "{0}5"}, Long: [6]string{api.Few: "{0}f", api.Other: "{0}o"}, Per: "{0}/"},
	}
	expectMore(t, l,
		text("unit/-/short/other", "{0}"), text("unit/-/long/other", "{0}l"),
		text("unit/km/short/zero", "{0}0"), text("unit/km/short/one", "{0}1"), text("unit/km/short/two", "{0}2"), text("unit/km/short/few", "{0}3"), text("unit/km/short/many", "{0}4"), text("unit/km/short/other", "{0}5"),
		text("unit/km/long/few", "{0}f"), text("unit/km/long/other", "{0}o"), text("unit/km/per", "{0}/"))
}

// The keys rise by their bytes: a `-` stands ahead of the `/` that ends another Id.
func TestEntriesRise(t *testing.T) {
	l := full()
	l.Units = []api.Unit{{Id: "a"}, {Id: "a-"}, {Id: "a-b"}, {Id: "aa"}, {Id: "b"}}
	for i := range l.Units {
		l.Units[i].Short[api.Other], l.Units[i].Long[api.Other] = "{0}", "{0}"
	}
	list, err := locale.Entries(l)
	if err != api.OK {
		t.Fatal("error", err)
	}
	for i, e := range list {
		if i > 0 && list[i-1].Key >= e.Key {
			t.Errorf("%q behind %q", e.Key, list[i-1].Key)
		}
		if e.Kind == api.EntryAlias {
			t.Errorf("%q is an alias", e.Key)
		}
	}
	expectCheck(t, "units of like beginnings", l, api.OK)
}

func TestEntriesOfRecordsThatMayNotBe(t *testing.T) {
	for i, change := range []func(l *api.Locale){
		func(l *api.Locale) { *l = api.Locale{} },
		func(l *api.Locale) { l.Name = "" },
		func(l *api.Locale) { l.Symbols.Range = "{0}{1}" },
		func(l *api.Locale) { l.Symbols.Digits[9] = "0" },
		func(l *api.Locale) { l.MinGroup = 5 },
		func(l *api.Locale) { l.Short[0].Category = 6 },
		func(l *api.Locale) { l.Short[0].Category = -1 },
		func(l *api.Locale) { l.Short[0].Exp = -1 << 63 },
		func(l *api.Locale) { l.Long[0].Exp = 100 },
		func(l *api.Locale) { l.Coins[0].Code = "" },
		func(l *api.Locale) { l.Units[1].Id = l.Units[0].Id },
		func(l *api.Locale) { l.Units[1].Long[api.Other] = "" },
		func(l *api.Locale) { l.Spacing = "\xff" },
	} {
		l := record()
		change(&l)
		if list, err := locale.Entries(l); err != api.ErrLocaleForm || len(list) != 0 {
			t.Errorf("change %d: %s, error %d", i, short(list), err)
		}
	}
}
