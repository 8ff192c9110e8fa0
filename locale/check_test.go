package locale_test

import (
	"fmt"
	"math"
	"slices"
	"testing"

	"quipu/api"
	"quipu/bundle"
	"quipu/locale"
	"quipu/pattern"
)

// P15.1 (and P15.3, P15.4 of each record here, by expectCheck)

func TestErrorsHaveTheirNumbers(t *testing.T) {
	if api.ErrLocaleKey != 150 || api.ErrLocaleForm != 151 {
		t.Error("other numbers:", api.ErrLocaleKey, api.ErrLocaleForm)
	}
}

func TestCheckOfWholeRecords(t *testing.T) {
	expectCheck(t, "the zero record", api.Locale{}, api.ErrLocaleForm)
	expectCheck(t, "the least record", least(), api.OK)
	expectCheck(t, "a record", record(), api.OK)
	expectCheck(t, "a full record", full(), api.OK)
}

func wantOf(may bool) api.Errno {
	if may {
		return api.OK
	}
	return api.ErrLocaleForm
}

// texts of which some may stand somewhere, and some may not.
type texts struct{ good, bad []string }

func (x texts) with(good, bad []string) texts {
	return texts{slices.Concat(x.good, good), slices.Concat(x.bad, bad)}
}

// expectTexts holds each text, in the place of a record, against whether it may stand there.
func expectTexts(t *testing.T, what string, x texts, place func(l *api.Locale) *string) {
	t.Helper()
	for _, good := range []bool{true, false} {
		list := x.bad
		if good {
			list = x.good
		}
		for _, s := range list {
			l := record()
			*place(&l) = s
			expectCheck(t, fmt.Sprintf("%s %.80q", what, s), l, wantOf(good))
		}
	}
}

func broken() []string {
	return []string{"\x80", "\xff", "a\xff", "\xffa", "a\xc3", "\xe2\x82", "\xc0\x80", "\xed\xa0\x80", "\xf4\x90\x80\x80"}
}

func symbolTexts() texts {
	return texts{
		good: []string{"a", " ", "\x00", "\x7f", "é", "€", "\U0010ffff", "\ufffd", "{0}", "{1}", "''", "0", "a b", repeat("a", 63), repeat("a", 64), repeat("é", 32), repeat("€", 21) + "a", repeat("\U0001F600", 16)},
		bad:  append(broken(), "", repeat("a", 65), repeat("é", 32)+"a", repeat("é", 33), repeat("€", 22), repeat("a", 1025), repeat("a", 1<<20), repeat("a", 63)+"\xff", repeat("a", 60)+"\xf0\x9f\x98"),
	}
}

func formTexts() texts {
	return texts{
		good: []string{"{0}", "{0} a", "a {0}", "a{0}b", "{{0}}", "{0}}", "{{0}", "{0}{1}", "{1}{0}", "{0{0}0}", "€{0}€", "{0}" + repeat("a", 61), repeat("a", 61) + "{0}", repeat("é", 30) + "{0}a"},
		bad:  append(broken(), "a", " ", "{1}", "{0", "0}", "{}", "{ 0}", "{00}", "{0 }", "{O}", "{0}{0}", "{0} {0}", "{0}a{0}a{0}", "{0}"+repeat("a", 62), repeat("a", 62)+"{0}", repeat("é", 31)+"{0}", repeat("a", 1<<20)+"{0}", "{0}\xff", "\xc3{0}", "{0\xff}"),
	}
}

func TestCheckName(t *testing.T) {
	expectTexts(t, "Name", texts{
		good: []string{"a", "en-GB", " ", "\x00", "é", "{0}", "/", repeat("a", 64), repeat("a", 65), repeat("a", 1024), repeat("é", 512), repeat("€", 341) + "a"},
		bad:  append(broken(), "", repeat("a", 1025), repeat("é", 512)+"a", repeat("é", 513), repeat("a", 1<<20), repeat("a", 1023)+"\xff"),
	}, func(l *api.Locale) *string { return &l.Name })
}

func TestCheckDigits(t *testing.T) {
	for i := range 10 {
		digit := func(l *api.Locale) *string { return &l.Symbols.Digits[i] }
		expectTexts(t, fmt.Sprint("the digit ", i), texts{
			good: []string{"a", "é", "€", "\U0001D7CE", "\U0010ffff", "\x00", "\x7f", " ", "\ufffd", "-", fmt.Sprint(i)},
			bad:  append(broken(), "", "ab", "éé", "e\u0301", "a\xff", "00", "{0}"),
		}, digit)
		for j := range 10 {
			l := record()
			*digit(&l) = l.Symbols.Digits[j]
			expectCheck(t, fmt.Sprint("the digit ", j, " at ", i), l, wantOf(i == j))
		}
	}
	for _, first := range []rune{'0', 'A', '٠', '€', '\U0001D7CE', 0, 0x7a, 0x7fa, 0xfffa} {
		l := record()
		l.Symbols.Digits = digitsFrom(first)
		expectCheck(t, fmt.Sprintf("digits from %q on", first), l, api.OK)
	}
	l := record()
	l.Symbols.Digits = [10]string{}
	expectCheck(t, "no digits", l, api.ErrLocaleForm)
}

func TestCheckSymbols(t *testing.T) {
	for i := range 9 {
		expectTexts(t, fmt.Sprint("the symbol ", i), symbolTexts(), func(l *api.Locale) *string { return plainSymbols(&l.Symbols)[i] })
	}
	l := record()
	for _, place := range plainSymbols(&l.Symbols) {
		*place = "0"
	}
	expectCheck(t, "symbols that are all the same", l, api.OK)
}

func TestCheckApproximatelyAndRange(t *testing.T) {
	expectTexts(t, "Approximately", formTexts().with(nil, []string{""}), func(l *api.Locale) *string { return &l.Symbols.Approximately })
	expectTexts(t, "Range", texts{
		good: []string{"{0}-{1}", "{0} {1}", "a{0}b{1}c", "{0}{{1}", "{0}}{1}", "{0}}{{1}", "{{0}-{1}}", "{0}{2}{1}", "{0}{ {1}", "{0}\x00{1}", "{0}" + repeat("a", 58) + "{1}", "{0}-{1}" + repeat("a", 57), repeat("é", 28) + "a{0}-{1}"},
		bad: append(broken(), "", "{0}", "{1}", "-", "{0}{1}", "a{0}{1}b", "{1}-{0}", "{1}{0}", "{0}-{1}{1}", "{0}-{1}-{1}", "{0}-{0}{1}", "{0}-{0}-{1}", "{1}-{0}-{1}", "{0}-{1}-{0}", "{0}-", "-{1}", "{0}-{2}", "{0-{1}", "{0}-{1",
			"{0}"+repeat("a", 59)+"{1}", repeat("é", 29)+"{0}-{1}", "{0}\xff{1}", "{0}-{1}\xc3", repeat("a", 1<<20)+"{0}-{1}"),
	}, func(l *api.Locale) *string { return &l.Symbols.Range })
}

// expectNumbers holds each number near the bounds, in the place of a record, against them.
func expectNumbers(t *testing.T, what string, least, most int, place func(l *api.Locale) *int) {
	t.Helper()
	for _, n := range []int{math.MinInt, -1 << 32, -1, 0, 1, 2, 3, 4, 5, least - 1, least, most, most + 1, 255, 256, 257, 1 << 32, 1<<32 + 1, math.MaxInt} {
		l := record()
		*place(&l) = n
		expectCheck(t, fmt.Sprint(what, " ", n), l, wantOf(n >= least && n <= most))
	}
}

func TestCheckMinGroup(t *testing.T) {
	expectNumbers(t, "MinGroup", 1, 4, func(l *api.Locale) *int { return &l.MinGroup })
}

func TestCheckPatterns(t *testing.T) {
	none := []string{"", "a", "0;", ";0", "0.", ",0", "\xff", "'", "#,##0E0", repeat("'a'", 42) + "0#", "'" + repeat("a", 127) + "'0", repeat("#", 129), "0" + repeat("'", 128), "*x0", "*x*y0", "0*x", "¤*x0%", "0;*x0", "*x0;0", "0¤%;(0¤%*x)", "¤0%;¤*x0%"}
	expectTexts(t, "DecimalPattern", texts{
		good: []string{"0", "#", "#,##0.###", "#,##,##0.00;(#,##0)", "0E+00", "-0", "¤0", "0%", "a0b", "'*'0", "'*x'0", "'%'0", repeat("0", 32), repeat("#", 128), "+0;-0", "''0"},
		bad:  none,
	}, func(l *api.Locale) *string { return &l.DecimalPattern })
	expectTexts(t, "PercentPattern", texts{
		good: []string{"0%", "%0", "#,##0.## %", "%0%", "%%0", "a%b0", "0%;0", "0%;(0)", "%0;-0%", "0%¤", "'%'0%", "0E0%"},
		bad:  append(none, "0", "0‰", "0'%'", "'%'0", "0;0%", "0;%0", "-0", "¤0", "0*%", "*%0"),
	}, func(l *api.Locale) *string { return &l.PercentPattern })
	money := texts{
		good: []string{"¤0", "0¤", "¤¤0", "0 ¤¤¤", "¤0¤", "¤#,##0.00;(#,##0.00)", "0¤;¤0", "-¤0", "'¤'0¤", "%0¤"},
		bad:  append(none, "0", "0'¤'", "'¤'0", "0;0¤", "0;¤0", "¤¤¤¤0", "-0%", "0$", "*¤0", "0*¤"),
	}
	expectTexts(t, "MoneyPattern", money, func(l *api.Locale) *string { return &l.MoneyPattern })
	expectTexts(t, "AccountingPattern", money, func(l *api.Locale) *string { return &l.AccountingPattern })
}

func TestCheckRules(t *testing.T) {
	rules := texts{
		good: []string{"", " ", "one: n = 1", "one: i = 1 and v = 0; few: n % 10 = 2..4 or e != 0", repeat(" ", 1024), "one: n = 1" + repeat(" ", 1014)},
		bad:  append(broken(), "one", "other: n = 1", "one: n = 1;", "one: n = 3..2", "One: n = 1", "one+other: few", repeat(" ", 1025), "one: n = 1"+repeat(" ", 1015), "é"),
	}
	expectTexts(t, "Cardinal", rules, func(l *api.Locale) *string { return &l.Cardinal })
	expectTexts(t, "Ordinal", rules, func(l *api.Locale) *string { return &l.Ordinal })
	expectTexts(t, "Ranges", texts{
		good: []string{"", " ", "one+other: few", "one+one: one; other+one: other", repeat(" ", 1024), "one+one: one" + repeat(" ", 1012)},
		bad:  append(broken(), "one", "one: n = 1", "one+one: one; one+one: two", "one+one: one;", repeat(" ", 1025), "one+one: one"+repeat(" ", 1013)),
	}, func(l *api.Locale) *string { return &l.Ranges })
}

func TestCheckSpacing(t *testing.T) {
	x := symbolTexts()
	x.bad = slices.DeleteFunc(x.bad, func(s string) bool { return s == "" })
	expectTexts(t, "Spacing", x.with([]string{""}, nil), func(l *api.Locale) *string { return &l.Spacing })
}

// tablesOfRows: both lists of rows of a record.
func tablesOfRows(l *api.Locale) []*[]api.Compact { return []*[]api.Compact{&l.Short, &l.Long} }

func expectRows(t *testing.T, what string, may bool, list ...api.Compact) {
	t.Helper()
	for i := range 2 {
		l := record()
		*tablesOfRows(&l)[i] = list
		expectCheck(t, what, l, wantOf(may))
	}
}

func row(exp, category int, said string) api.Compact {
	return api.Compact{Exp: exp, Category: category, Pattern: said}
}

func TestCheckRowsInOrder(t *testing.T) {
	const one, few, other = api.One, api.Few, api.Other
	expectRows(t, "no rows", true)
	for _, x := range []struct {
		what string
		may  bool
		list []api.Compact
	}{
		{"one row", true, []api.Compact{row(3, other, "0")}},
		{"all categories", true, rows(6, 6)},
		{"all Exps", true, rows(12, 1)},
		{"two Exps", true, []api.Compact{row(3, one, "0"), row(3, other, "0"), row(7, few, "0"), row(7, other, "0")}},
		{"Exps that fall", false, []api.Compact{row(6, other, "0"), row(3, other, "0")}},
		{"Exps that fall at the end", false, []api.Compact{row(3, other, "0"), row(6, other, "0"), row(5, other, "0")}},
		{"an Exp that comes again", false, []api.Compact{row(3, other, "0"), row(4, other, "0"), row(3, other, "0")}},
		{"categories that fall", false, []api.Compact{row(3, other, "0"), row(3, one, "0")}},
		{"categories that fall ahead of Other", false, []api.Compact{row(3, few, "0"), row(3, one, "0"), row(3, other, "0")}},
		{"the same twice", false, []api.Compact{row(3, other, "0"), row(3, other, "0")}},
		{"the same twice, unlike patterns", false, []api.Compact{row(3, other, "0a"), row(3, other, "0b")}},
		{"the same twice ahead of Other", false, []api.Compact{row(3, one, "0"), row(3, one, "0"), row(3, other, "0")}},
		{"no Other", false, []api.Compact{row(3, one, "0")}},
		{"no Other of the first Exp", false, []api.Compact{row(3, one, "0"), row(3, few, "0"), row(4, other, "0")}},
		{"no Other in the middle", false, []api.Compact{row(3, other, "0"), row(4, few, "0"), row(5, other, "0")}},
		{"no Other of the last Exp", false, []api.Compact{row(3, other, "0"), row(4, few, "0")}},
		{"unlike IntMins within an Exp", false, []api.Compact{row(5, one, "0"), row(5, other, "00")}},
		{"the last IntMin unlike", false, []api.Compact{row(5, one, "0"), row(5, few, "0"), row(5, other, "00")}},
		{"the first IntMin unlike", false, []api.Compact{row(5, one, "00"), row(5, few, "0"), row(5, other, "0")}},
		{"unlike IntMins of unlike Exps", true, []api.Compact{row(3, other, "0"), row(4, other, "00"), row(5, one, "000"), row(5, other, "000"), row(6, other, "0")}},
		{"unlike signs ahead of like IntMins", true, []api.Compact{row(5, one, "##00"), row(5, other, "00")}},
	} {
		expectRows(t, x.what, x.may, x.list...)
	}
}

func TestCheckManyRows(t *testing.T) {
	for each := 1; each <= api.Categories; each++ {
		for exps := range 13 {
			n := exps * each
			expectRows(t, fmt.Sprint(n, " rows, ", each, " of each Exp"), n <= 24, rows(n, each)...)
		}
	}
	more := append(rows(24, 6), row(9, api.Other, "0"))
	expectRows(t, "25 rows", false, more...)
	expectRows(t, "the first 24 of them", true, more[:24]...)
	expectRows(t, "the last 24 of them", true, more[1:]...)
}

func TestCheckRowsBounds(t *testing.T) {
	for _, n := range []int{math.MinInt, -1 << 32, -1, 0, 1, 2, 3, 4, 13, 14, 15, 16, 99, 100, 103, 259, 1<<32 + 3, math.MaxInt} {
		expectRows(t, fmt.Sprint("the Exp ", n), n >= 3 && n <= 14, row(n, api.Other, "0"))
	}
	for _, n := range []int{math.MinInt, -1, 0, 1, 2, 3, 4, 5, 6, 7, 255, 256, 1<<32 + 5, math.MaxInt} {
		list := []api.Compact{row(3, n, "0"), row(3, api.Other, "0")}
		expectRows(t, fmt.Sprint("the category ", n), n >= 0 && n <= 4, list...)
		expectRows(t, fmt.Sprint("the category ", n, " alone"), n == 5, list[0])
		expectRows(t, fmt.Sprint("the category ", n, " behind Other"), false, list[1], list[0])
	}
	for exp := 3; exp <= 14; exp++ {
		for n := range 20 {
			expectRows(t, fmt.Sprint("the IntMin ", n, " of ", exp), n >= 1 && n <= exp+1, row(exp, api.Other, "#"+repeat("0", n)))
		}
	}
}

func TestCheckRowsPatterns(t *testing.T) {
	for _, s := range []string{"0", "00", "0000", "#0", "####00", "0K", "K0", "a0b", "0 'K'", "0'-'", "'¤'0", "0'%'", "0''", "0E", "0Ex", "'0'0", "0€", "0'*'", "0';'", "0 million", "0" + repeat("a", 64)} {
		expectRows(t, "the pattern "+s, true, row(3, api.Other, s))
		expectRows(t, "the pattern "+s+" of One and Other", true, row(14, api.One, s), row(14, api.Other, s))
	}
	for _, s := range append(broken(), "", "a", "#", "###", "00000", "0.0", "0.#", "0.00K", "#,000", "0,000", "#,##0", "0E0", "0E+00", "-0", "0-", "+0", "0%", "%0", "0‰", "¤0", "0¤", "0¤¤¤", "a-0", "0;0", "0K;0K", "0;", "*x0", "0*x", "K*x0", "0K*x", "'", "0'", "0\xff", "0"+repeat("a", 65), repeat("#", 129)) {
		expectRows(t, "the pattern "+s, false, row(3, api.Other, s))
		expectRows(t, "the pattern "+s+" of One", false, row(3, api.One, s), row(3, api.Other, "0"))
	}
	long := repeat("#", 127) + "0"
	if _, err := pattern.Parse(long); err != api.OK {
		t.Fatal("a pattern of 128 bytes:", err)
	}
	expectRows(t, "a pattern of 128 bytes", true, row(3, api.Other, long))
}

func TestCheckCoinsInOrder(t *testing.T) {
	for _, n := range []int{0, 1, 15, 16, 17, 18, 26} {
		l := record()
		l.Coins = coins(n)
		expectCheck(t, fmt.Sprint(n, " coins"), l, wantOf(n <= 16))
	}
	for i := range 4 {
		for j := range 4 {
			l := record()
			l.Coins = coins(4)
			l.Coins[i], l.Coins[j] = l.Coins[j], l.Coins[i]
			expectCheck(t, fmt.Sprint("the coins ", i, " and ", j, " by turns"), l, wantOf(i == j))
			l.Coins = coins(4)
			l.Coins[i].Code = l.Coins[j].Code
			expectCheck(t, fmt.Sprint("the code ", j, " at ", i), l, wantOf(i == j))
		}
	}
}

func TestCheckCodes(t *testing.T) {
	expectTexts(t, "Code", texts{
		good: []string{"USD", "USA", "ZZZ", "FAA", "EUS"},
		bad:  append(broken(), "", "US", "USDX", "usd", "Usd", "USd", "US1", "US ", "U S", "US-", "US/", "US@", "US[", "É1", "USÉ", "U\xc3\x89", repeat("Z", 1<<16)),
	}, func(l *api.Locale) *string { return &l.Coins[1].Code })
	expectTexts(t, "the code of the one coin", texts{
		good: []string{"AAA", "ZZZ", "AZA", "MMM"},
		bad:  append(broken(), "", "A", "AA", "AAAA", "aAA", "AaA", "AAa", "@AA", "A[A", "AA\x00"),
	}, func(l *api.Locale) *string {
		l.Coins = coins(1)
		return &l.Coins[0].Code
	})
}

func TestCheckCoins(t *testing.T) {
	for i := range 2 {
		coin := func(l *api.Locale) *api.Coin { return &l.Coins[i] }
		expectTexts(t, "Symbol", symbolTexts(), func(l *api.Locale) *string { return &coin(l).Symbol })
		expectTexts(t, "Narrow", symbolTexts(), func(l *api.Locale) *string { return &coin(l).Narrow })
		expectForms(t, "Names", func(l *api.Locale) *[6]string { return &coin(l).Names })
		expectNumbers(t, "Digits", 0, 9, func(l *api.Locale) *int { return &coin(l).Digits })
		expectNumbers(t, "Cash", 0, 9, func(l *api.Locale) *int { return &coin(l).Cash })
		expectNumbers(t, "CashStep", 0, 999, func(l *api.Locale) *int { return &coin(l).CashStep })
	}
}

// expectForms: each of six forms, of which that of Other alone may not be empty.
func expectForms(t *testing.T, what string, place func(l *api.Locale) *[6]string) {
	t.Helper()
	for category := range api.Categories {
		x := formTexts()
		if category == api.Other {
			x = x.with(nil, []string{""})
		} else {
			x = x.with([]string{""}, nil)
		}
		expectTexts(t, fmt.Sprint(what, " of ", category), x, func(l *api.Locale) *string { return &place(l)[category] })
	}
	l := record()
	*place(&l) = [6]string{"{0}", "{0}", "{0}", "{0}", "{0}", ""}
	expectCheck(t, what+" but Other", l, api.ErrLocaleForm)
	*place(&l) = [6]string{}
	expectCheck(t, what+" empty", l, api.ErrLocaleForm)
	*place(&l) = [6]string{api.Other: "{0}"}
	expectCheck(t, what+" of Other alone", l, api.OK)
}

func TestCheckUnitsInOrder(t *testing.T) {
	for _, n := range []int{0, 1, 15, 16, 17, 18, 26} {
		l := record()
		l.Units = units(n)
		expectCheck(t, fmt.Sprint(n, " units"), l, wantOf(n <= 16))
	}
	for i := range 4 {
		for j := range 4 {
			l := record()
			l.Units = units(4)
			l.Units[i], l.Units[j] = l.Units[j], l.Units[i]
			expectCheck(t, fmt.Sprint("the units ", i, " and ", j, " by turns"), l, wantOf(i == j))
			l.Units = units(4)
			l.Units[i].Id = l.Units[j].Id
			expectCheck(t, fmt.Sprint("the id ", j, " at ", i), l, wantOf(i == j))
		}
	}
}

func TestCheckIds(t *testing.T) {
	expectTexts(t, "Id", texts{
		good: []string{"a", "z", "-", "--", "km", "a-b", "-a", "a-", "cubic-kilometer"[:15], repeat("z", 16), repeat("-", 16)},
		bad:  append(broken(), "", repeat("z", 17), repeat("a", 1<<16), "KM", "Km", "kM", "k m", "km2", "k/m", "k_m", "é", "k\u00e9", "a.b", "`", "{", "a\x00"),
	}, func(l *api.Locale) *string {
		l.Units = units(1)
		return &l.Units[0].Id
	})
}

func TestCheckUnits(t *testing.T) {
	for i := range 2 {
		unit := func(l *api.Locale) *api.Unit { return &l.Units[i] }
		expectForms(t, "Short", func(l *api.Locale) *[6]string { return &unit(l).Short })
		expectForms(t, "Long", func(l *api.Locale) *[6]string { return &unit(l).Long })
		expectTexts(t, "Per", formTexts().with([]string{""}, nil), func(l *api.Locale) *string { return &unit(l).Per })
	}
}

// A record of every sort is what the words say it is; so is one of which one thing is another one.
func TestCheckByWords(t *testing.T) {
	r := source()
	tally := map[api.Errno]int{}
	for range 1500 {
		l := someRecord(r)
		expectCheck(t, short(l), l, api.OK)
		for range 4 {
			l = spoilt(r, l)
			want := checkByWords(l)
			expectCheck(t, short(l), l, want)
			tally[want]++
		}
		if t.Failed() {
			return
		}
	}
	if tally[api.OK] < 300 || tally[api.ErrLocaleForm] < 2000 {
		t.Error("too few of a kind:", tally)
	}
}

// A record that may be never asks for more than a bundle may have.
func TestEntriesFitABundle(t *testing.T) {
	for _, l := range []api.Locale{least(), record(), full()} {
		list, err := locale.Entries(l)
		if err != api.OK {
			t.Fatal(err)
		}
		if err := bundle.Check(of(table(l.Name, -1, list...))); err != api.OK {
			t.Errorf("%d entries make no table: %d", len(list), err)
		}
	}
}
