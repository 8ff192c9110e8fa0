package locale_test

import (
	"fmt"
	"math/rand/v2"
	"slices"

	"quipu/api"
)

func source() *rand.Rand { return rand.New(rand.NewPCG(15, 1)) }

func oneOf[T any](r *rand.Rand, list ...T) T { return list[r.IntN(len(list))] }

// digitsFrom: ten runes, from that one on.
func digitsFrom(first rune) (digits [10]string) {
	for i := range digits {
		digits[i] = string(first + rune(i))
	}
	return digits
}

// least: a record that says nothing which it need not say.
func least() api.Locale {
	return api.Locale{
		Name: "x",
		Symbols: api.Symbols{
			Digits: digitsFrom('0'), Decimal: ".", Group: ",", Minus: "-", Plus: "+", Percent: "%", Permille: "‰", Exponent: "E",
			Infinity: "∞", NaN: "NaN", Approximately: "~{0}", Range: "{0}–{1}",
		},
		MinGroup: 1, DecimalPattern: "0", PercentPattern: "0%", MoneyPattern: "¤0", AccountingPattern: "0¤",
	}
}

// record: one that says something of each kind.
func record() api.Locale {
	l := least()
	l.Name, l.MinGroup, l.Spacing = "en", 2, "\u00a0"
	l.DecimalPattern, l.PercentPattern, l.MoneyPattern, l.AccountingPattern = "#,##0.###", "#,##0%", "¤#,##0.00", "¤#,##0.00;(¤#,##0.00)"
	l.Cardinal, l.Ordinal, l.Ranges = "one: i = 1 and v = 0", "one: n % 10 = 1", "one+other: other"
	l.Short = []api.Compact{{Exp: 3, Category: api.One, Pattern: "0K"}, {Exp: 3, Category: api.Other, Pattern: "0Ks"}, {Exp: 5, Category: api.Other, Pattern: "000K"}}
	l.Long = []api.Compact{{Exp: 6, Category: api.Other, Pattern: "0 'million'"}}
	l.Coins = []api.Coin{
		{Code: "EUR", Symbol: "€", Narrow: "€", Names: [6]string{api.Other: "{0} euros"}, Digits: 2, Cash: 2},
		{Code: "USD", Symbol: "US$", Narrow: "$", Names: [6]string{api.One: "{0} dollar", api.Other: "{0} dollars"}, Digits: 2, Cash: 1, CashStep: 5},
	}
	l.Units = []api.Unit{
		{Id: "hour", Short: [6]string{api.Other: "{0} h"}, Long: [6]string{api.One: "{0} hour", api.Other: "{0} hours"}, Per: "{0}/h"},
		{Id: "km", Short: [6]string{api.Other: "{0} km"}, Long: [6]string{api.Other: "{0} km"}},
	}
	return l
}

// rows: so many, of each Exp from 3 on the last categories.
func rows(n, each int) []api.Compact {
	var list []api.Compact
	for i := range n {
		list = append(list, api.Compact{Exp: 3 + i/each, Category: api.Categories - each + i%each, Pattern: "0"})
	}
	return list
}

func coins(n int) []api.Coin {
	var list []api.Coin
	for i := range n {
		list = append(list, api.Coin{Code: fmt.Sprintf("A%cZ", 'A'+i), Symbol: "s", Narrow: "n", Names: [6]string{api.Other: "{0}"}})
	}
	return list
}

func units(n int) []api.Unit {
	var list []api.Unit
	for i := range n {
		list = append(list, api.Unit{Id: fmt.Sprintf("u-%c", 'a'+i), Short: [6]string{api.Other: "{0}"}, Long: [6]string{api.Other: "{0}"}})
	}
	return list
}

// full: as many rows, coins and units as there may be, with all their forms.
func full() api.Locale {
	l := record()
	l.Name = repeat("é", 512)
	l.Short, l.Long, l.Coins, l.Units = rows(24, 2), rows(24, 6), coins(16), units(16)
	for i := range l.Coins {
		for category := range l.Coins[i].Names {
			l.Coins[i].Names[category] = fmt.Sprint("{0} coin ", i, category)
		}
	}
	for i := range l.Units {
		u := &l.Units[i]
		u.Per = fmt.Sprint("{0} per ", i)
		for category := range u.Short {
			u.Short[category], u.Long[category] = fmt.Sprint("{0} s ", i, category), fmt.Sprint("{0} l ", i, category)
		}
	}
	return l
}

func clone(l api.Locale) api.Locale {
	l.Short, l.Long, l.Coins, l.Units = slices.Clone(l.Short), slices.Clone(l.Long), slices.Clone(l.Coins), slices.Clone(l.Units)
	return l
}

func someSymbol(r *rand.Rand) string {
	return oneOf(r, "a", ".", "€", " ", "{1}", "''", "\x00", repeat("a", 64), repeat("é", 32), "\U0010ffff")
}

func someForm(r *rand.Rand) string {
	return oneOf(r, "{0}", "{0}", "a {0}", "{0} €", "{{0}}", "{0}{1}", "{0}"+repeat("a", 61), repeat("é", 30)+"{0}")
}

func someForms(r *rand.Rand) (forms [6]string) {
	for category := range forms {
		if category == api.Other || r.IntN(4) == 0 {
			forms[category] = someForm(r)
		}
	}
	return forms
}

func someRows(r *rand.Rand) []api.Compact {
	var list []api.Compact
	for exp := 3; exp <= 14; exp++ {
		if r.IntN(4) > 0 || len(list) > 18 {
			continue
		}
		noughts := repeat("0", 1+r.IntN(exp+1))
		for category := range api.Categories {
			if category == api.Other || r.IntN(6) == 0 {
				said := oneOf(r, "", "K", "'it''s'", "'-'", "€")
				list = append(list, api.Compact{Exp: exp, Category: category, Pattern: oneOf(r, noughts+said, said+noughts, "##"+noughts)})
			}
		}
	}
	return list
}

func someCoins(r *rand.Rand) []api.Coin {
	var list []api.Coin
	for _, code := range []string{"AAA", "AAB", "EUR", "USD", "ZZZ"} {
		if r.IntN(3) == 0 {
			list = append(list, api.Coin{Code: code, Symbol: someSymbol(r), Narrow: someSymbol(r), Names: someForms(r), Digits: r.IntN(10), Cash: r.IntN(10), CashStep: r.IntN(1000)})
		}
	}
	return list
}

func someUnits(r *rand.Rand) []api.Unit {
	var list []api.Unit
	for _, id := range []string{"-", "a", "a-b", "km", "zzzzzzzzzzzzzzzz"} {
		if r.IntN(3) == 0 {
			list = append(list, api.Unit{Id: id, Short: someForms(r), Long: someForms(r), Per: oneOf(r, "", someForm(r))})
		}
	}
	return list
}

// someRecord may be.
func someRecord(r *rand.Rand) api.Locale {
	l := record()
	l.Name = oneOf(r, "en", "x", "é", "\x00", repeat("a", 1024))
	s := &l.Symbols
	s.Digits = digitsFrom(oneOf(r, '0', '٠', 'a', '€', '\U0001D7CE', '\x00'))
	for _, place := range plainSymbols(s) {
		*place = someSymbol(r)
	}
	s.Approximately, s.Range = someForm(r), oneOf(r, "{0}-{1}", "a{0} {1}b", "{0}"+repeat("é", 29)+"{1}")
	l.MinGroup, l.Spacing = 1+r.IntN(4), oneOf(r, "", someSymbol(r))
	l.DecimalPattern = oneOf(r, "0", "#", "#,##,##0.00;0", "0E0", "-0", "¤0", "'*'0")
	l.PercentPattern = oneOf(r, "0%", "%0", "#,##0.00 %;-0", "%%0%")
	l.MoneyPattern, l.AccountingPattern = oneOf(r, "¤0", "0 ¤¤", "¤0¤"), oneOf(r, "¤0;(0)", "0¤¤¤")
	l.Cardinal, l.Ordinal, l.Ranges = oneOf(r, "", "one: n = 1"), oneOf(r, "", "few: n % 10 = 3"), oneOf(r, "", "one+other: other")
	l.Short, l.Long, l.Coins, l.Units = someRows(r), someRows(r), someCoins(r), someUnits(r)
	return l
}

// plainSymbols: those that are asked for nothing more.
func plainSymbols(s *api.Symbols) []*string {
	return []*string{&s.Decimal, &s.Group, &s.Minus, &s.Plus, &s.Percent, &s.Permille, &s.Exponent, &s.Infinity, &s.NaN}
}

// spoilt: a record of which one thing is another one; perhaps it may be still.
func spoilt(r *rand.Rand, l api.Locale) api.Locale {
	l = clone(l)
	s := &l.Symbols
	odd := oneOf(r, "", "a", "{0}", "{0}{0}", "{0}{1}", "{1}{0}", "{0}-{1}", "0", "0%", "¤0", "*x0", "0;*x0", "-0", "00", "\xff", repeat("a", 64), repeat("a", 65), repeat("a", 1025), "one: n = 1", "USD", "km")
	n := oneOf(r, -1, 0, 1, 2, 3, 4, 5, 6, 9, 10, 14, 15, 999, 1000, 1<<32, -1<<63)
	texts := []*string{&l.Name, &l.Spacing, &l.DecimalPattern, &l.PercentPattern, &l.MoneyPattern, &l.AccountingPattern, &l.Cardinal, &l.Ordinal, &l.Ranges, &s.Approximately, &s.Range, &s.Digits[r.IntN(10)]}
	texts = append(texts, plainSymbols(s)...)
	numbers := []*int{&l.MinGroup}
	for _, list := range [][]api.Compact{l.Short, l.Long} {
		if len(list) > 0 {
			row, other := &list[r.IntN(len(list))], &list[r.IntN(len(list))]
			if r.IntN(10) == 0 {
				*row, *other = *other, *row
			}
			texts, numbers = append(texts, &row.Pattern), append(numbers, &row.Exp, &row.Category)
		}
	}
	if len(l.Coins) > 0 {
		c := &l.Coins[r.IntN(len(l.Coins))]
		texts, numbers = append(texts, &c.Code, &c.Symbol, &c.Narrow, &c.Names[r.IntN(6)]), append(numbers, &c.Digits, &c.Cash, &c.CashStep)
	}
	if len(l.Units) > 0 {
		u := &l.Units[r.IntN(len(l.Units))]
		texts = append(texts, &u.Id, &u.Per, &u.Short[r.IntN(6)], &u.Long[r.IntN(6)])
	}
	if r.IntN(4) == 0 {
		*oneOf(r, numbers...) = n
	} else {
		*oneOf(r, texts...) = odd
	}
	return l
}
