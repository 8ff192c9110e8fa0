package locale_test

import (
	"fmt"
	"maps"
	"reflect"
	"regexp"
	"slices"
	"strings"
	"testing"
	"unicode/utf8"

	"quipu/affix"
	"quipu/api"
	"quipu/bundle"
	"quipu/locale"
	"quipu/pattern"
	"quipu/rule"
)

// The chapter's words, by another way than the program's: what the program is held against.

func repeat(s string, n int) string { return strings.Repeat(s, n) }

func short(x any) string { return fmt.Sprintf("%.2000s", fmt.Sprintf("%+v", x)) }

// same: a nil list and an empty one are the same.
func same(a, b api.Locale) bool {
	lists := slices.Equal(a.Short, b.Short) && slices.Equal(a.Long, b.Long) && slices.Equal(a.Coins, b.Coins) && slices.Equal(a.Units, b.Units)
	a.Short, a.Long, a.Coins, a.Units = nil, nil, nil, nil
	b.Short, b.Long, b.Coins, b.Units = nil, nil, nil, nil
	return lists && reflect.DeepEqual(a, b)
}

func symbolByWords(s string) bool { return len(s) >= 1 && len(s) <= 64 && utf8.ValidString(s) }

func formByWords(s string) bool { return symbolByWords(s) && len(strings.Split(s, "{0}")) == 2 }

func formsByWords(forms [6]string) bool {
	for category, s := range forms {
		if !formByWords(s) && (category == 5 || s != "") {
			return false
		}
	}
	return true
}

// rangeByWords: of two signs the first one comes ahead of the second, if what stands ahead of the second has the first.
func rangeByWords(s string) bool {
	front, _, _ := strings.Cut(s, "{1}")
	_, between, _ := strings.Cut(front, "{0}")
	return symbolByWords(s) && strings.Count(s, "{0}") == 1 && strings.Count(s, "{1}") == 1 && between != ""
}

func symbolsByWords(s api.Symbols) bool {
	kinds := map[string]int{}
	for _, d := range s.Digits {
		if utf8.ValidString(d) && utf8.RuneCountInString(d) == 1 {
			kinds[d]++
		}
	}
	ok := len(kinds) == 10 && formByWords(s.Approximately) && rangeByWords(s.Range)
	for _, x := range []string{s.Decimal, s.Group, s.Minus, s.Plus, s.Percent, s.Permille, s.Exponent, s.Infinity, s.NaN} {
		ok = ok && symbolByWords(x)
	}
	return ok
}

// patternByWords: a plain pattern, with a token of that kind in its first half (-1: whatever it has).
func patternByWords(s string, kind int) bool {
	p, err := pattern.Parse(s)
	has := kind == -1
	for _, x := range slices.Concat(p.Pos.Prefix, p.Pos.Suffix) {
		has = has || x.Kind == kind
	}
	return err == 0 && has && p.Pos.Pad+p.Neg.Pad == ""
}

// rowsByWords looks at each two rows, wherever they stand.
func rowsByWords(rows []api.Compact) bool {
	if len(rows) > 24 {
		return false
	}
	for i, row := range rows {
		p, err := pattern.Parse(row.Pattern)
		h := p.Pos
		h.Prefix, h.Suffix, h.IntMin = nil, nil, 0
		for kind := affixKinds; kind > 0; kind-- {
			if affix.Has(p.Pos.Prefix, kind) || affix.Has(p.Pos.Suffix, kind) {
				return false
			}
		}
		if err != 0 || p.HasNeg || !reflect.DeepEqual(h, api.Sub{}) {
			return false
		}
		if row.Exp < 3 || row.Exp > 14 || row.Category < 0 || row.Category > 5 || p.Pos.IntMin < 1 || p.Pos.IntMin > row.Exp+1 {
			return false
		}
		others := 0
		for j, x := range rows {
			if x.Exp != row.Exp {
				if (i < j) != (row.Exp < x.Exp) {
					return false
				}
				continue
			}
			q, _ := pattern.Parse(x.Pattern)
			if q.Pos.IntMin != p.Pos.IntMin || i < j && x.Category <= row.Category {
				return false
			}
			if x.Category == 5 {
				others++
			}
		}
		if others != 1 {
			return false
		}
	}
	return true
}

const affixKinds = 5 // that are no text

var (
	codeWords = regexp.MustCompile(`^[A-Z]{3}$`)
	idWords   = regexp.MustCompile(`^[a-z-]{1,16}$`)
)

// namesByWords: so many at most, rising, each once.
func namesByWords(names []string, form *regexp.Regexp) bool {
	sorted := slices.Compact(slices.Sorted(slices.Values(names)))
	return len(names) <= 16 && slices.Equal(sorted, names) && !slices.ContainsFunc(names, func(s string) bool { return !form.MatchString(s) })
}

func coinsByWords(coins []api.Coin) bool {
	var names []string
	ok := true
	for _, c := range coins {
		names = append(names, c.Code)
		ok = ok && symbolByWords(c.Symbol) && symbolByWords(c.Narrow) && formsByWords(c.Names)
		ok = ok && c.Digits >= 0 && c.Digits <= 9 && c.Cash >= 0 && c.Cash <= 9 && c.CashStep >= 0 && c.CashStep <= 999
	}
	return ok && namesByWords(names, codeWords)
}

func unitsByWords(units []api.Unit) bool {
	var names []string
	ok := true
	for _, u := range units {
		names = append(names, u.Id)
		ok = ok && formsByWords(u.Short) && formsByWords(u.Long) && (u.Per == "" || formByWords(u.Per))
	}
	return ok && namesByWords(names, idWords)
}

func checkByWords(l api.Locale) api.Errno {
	ok := utf8.ValidString(l.Name) && len(l.Name) >= 1 && len(l.Name) <= 1024 && symbolsByWords(l.Symbols)
	ok = ok && l.MinGroup >= 1 && l.MinGroup <= 4 && utf8.ValidString(l.Spacing) && len(l.Spacing) <= 64
	ok = ok && patternByWords(l.DecimalPattern, -1) && patternByWords(l.PercentPattern, api.TokPercent)
	ok = ok && patternByWords(l.MoneyPattern, api.TokCoin) && patternByWords(l.AccountingPattern, api.TokCoin)
	ok = ok && rule.Check(l.Cardinal)+rule.Check(l.Ordinal)+rule.CheckRanges(l.Ranges) == 0
	ok = ok && rowsByWords(l.Short) && rowsByWords(l.Long) && coinsByWords(l.Coins) && unitsByWords(l.Units)
	if !ok {
		return 151
	}
	return 0
}

func words() [6]string { return [6]string{"zero", "one", "two", "few", "many", "other"} }

// plainKeys: the keys that every record has, and where it has them; the digits stand in the text that is handed in.
func plainKeys(l *api.Locale, digits *string) map[string]any {
	s := &l.Symbols
	return map[string]any{
		"digits": digits, "decimal": &s.Decimal, "group": &s.Group, "minus": &s.Minus, "plus": &s.Plus, "percent": &s.Percent, "permille": &s.Permille,
		"exponent": &s.Exponent, "infinity": &s.Infinity, "nan": &s.NaN, "approximately": &s.Approximately, "range": &s.Range, "mingroup": &l.MinGroup,
		"pattern/decimal": &l.DecimalPattern, "pattern/percent": &l.PercentPattern, "pattern/money": &l.MoneyPattern, "pattern/accounting": &l.AccountingPattern,
		"cardinal": &l.Cardinal, "ordinal": &l.Ordinal, "ranges": &l.Ranges, "spacing": &l.Spacing,
	}
}

var keyWords = regexp.MustCompile(`^(?:(?:short|long)/[0-9]{2}/C|coin/[A-Z]{3}/(?:symbol|narrow|digits|cash|step|C)|unit/[a-z-]{1,16}/(?:short/C|long/C|per))$`)

// isTableKey: a key of the table's form, of one of the four beginnings.
func isTableKey(key string) bool {
	for _, word := range words() {
		if behind, ok := strings.CutSuffix(key, "/"+word); ok && keyWords.MatchString(behind+"/C") {
			return true
		}
	}
	return !strings.HasSuffix(key, "/C") && keyWords.MatchString(key)
}

var numberWords = regexp.MustCompile(`^(?:mingroup|coin/.*/(?:digits|cash|step))$`)

// loadByWords: all that is found first, and the record of it behind that.
func loadByWords(b api.Bundle, name string) (api.Locale, api.Errno) {
	keys, err := bundle.Keys(b, name, "")
	if err != 0 {
		return api.Locale{}, err
	}
	l, digits := api.Locale{Name: name}, ""
	plain := plainKeys(&l, &digits)
	said, ok := map[string]api.Entry{}, true
	find := func(key string) {
		e, err := bundle.Find(b, name, key)
		said[key] = e
		ok = ok && err == 0 && (e.Kind == api.EntryNumber) == numberWords.MatchString(key)
	}
	for key := range plain {
		find(key)
	}
	for _, begin := range []string{"short/", "long/", "coin/", "unit/"} {
		for _, key := range keys {
			if strings.HasPrefix(key, begin) {
				ok = ok && isTableKey(key)
				find(key)
			}
		}
	}
	if ok = ok && nothingLacks(said); !ok {
		return api.Locale{}, 150
	}
	for key, place := range plain {
		put(place, said[key])
	}
	runes := strings.Split(digits, "")
	if len(runes) != 10 {
		return api.Locale{}, 151
	}
	l.Symbols.Digits = [10]string(runes)
	l.Short, l.Long = rowsOf(said, "short"), rowsOf(said, "long")
	l.Coins, l.Units = coinsOf(said), unitsOf(said)
	if err := checkByWords(l); err != 0 {
		return api.Locale{}, err
	}
	return l, 0
}

func put(place any, e api.Entry) {
	switch x := place.(type) {
	case *string:
		*x = e.Text
	case *int:
		*x = e.Num
	}
}

// namesOf: what the coins, or the units, are called by of which there are keys, rising.
func namesOf(said map[string]api.Entry, begin string) []string {
	names := map[string]int{}
	for key := range said {
		if parts := strings.Split(key, "/"); parts[0] == begin {
			names[parts[1]]++
		}
	}
	return slices.Sorted(maps.Keys(names))
}

func nothingLacks(said map[string]api.Entry) bool {
	var must []string
	for _, code := range namesOf(said, "coin") {
		must = append(must, "coin/"+code+"/symbol", "coin/"+code+"/digits", "coin/"+code+"/other")
	}
	for _, id := range namesOf(said, "unit") {
		must = append(must, "unit/"+id+"/short/other", "unit/"+id+"/long/other")
	}
	return !slices.ContainsFunc(must, func(key string) bool {
		_, ok := said[key]
		return !ok
	})
}

func rowsOf(said map[string]api.Entry, begin string) []api.Compact {
	var rows []api.Compact
	for exp := range 100 {
		for category, word := range words() {
			if e, ok := said[fmt.Sprintf("%s/%02d/%s", begin, exp, word)]; ok {
				rows = append(rows, api.Compact{Exp: exp, Category: category, Pattern: e.Text})
			}
		}
	}
	return rows
}

func formsOf(said map[string]api.Entry, begin string) (forms [6]string) {
	for category, word := range words() {
		forms[category] = said[begin+word].Text
	}
	return forms
}

func coinsOf(said map[string]api.Entry) []api.Coin {
	var coins []api.Coin
	for _, code := range namesOf(said, "coin") {
		begin := "coin/" + code + "/"
		c := api.Coin{Code: code, Symbol: said[begin+"symbol"].Text, Names: formsOf(said, begin), Digits: said[begin+"digits"].Num, CashStep: said[begin+"step"].Num}
		c.Narrow, c.Cash = c.Symbol, c.Digits
		if e, ok := said[begin+"narrow"]; ok {
			c.Narrow = e.Text
		}
		if e, ok := said[begin+"cash"]; ok {
			c.Cash = e.Num
		}
		coins = append(coins, c)
	}
	return coins
}

func unitsOf(said map[string]api.Entry) []api.Unit {
	var units []api.Unit
	for _, id := range namesOf(said, "unit") {
		begin := "unit/" + id + "/"
		units = append(units, api.Unit{Id: id, Short: formsOf(said, begin+"short/"), Long: formsOf(said, begin+"long/"), Per: said[begin+"per"].Text})
	}
	return units
}

func text(key, said string) api.Entry { return api.Entry{Key: key, Text: said} }

func number(key string, n int) api.Entry {
	return api.Entry{Key: key, Kind: api.EntryNumber, Num: n}
}

func alias(key, other string) api.Entry {
	return api.Entry{Key: key, Kind: api.EntryAlias, Text: other}
}

// entriesByWords: the entries of a record that may be.
func entriesByWords(l api.Locale) []api.Entry {
	digits := strings.Join(l.Symbols.Digits[:], "")
	var list []api.Entry
	for key, place := range plainKeys(&l, &digits) {
		switch x := place.(type) {
		case *string:
			list = append(list, text(key, *x))
		case *int:
			list = append(list, number(key, *x))
		}
	}
	forms := func(begin string, forms [6]string) {
		for category, s := range forms {
			if s != "" {
				list = append(list, text(begin+words()[category], s))
			}
		}
	}
	rows := func(begin string, rows []api.Compact) {
		for _, row := range rows {
			list = append(list, text(fmt.Sprintf("%s/%02d/%s", begin, row.Exp, words()[row.Category]), row.Pattern))
		}
	}
	rows("short", l.Short)
	rows("long", l.Long)
	for _, c := range l.Coins {
		begin := "coin/" + c.Code + "/"
		list = append(list, text(begin+"symbol", c.Symbol), text(begin+"narrow", c.Narrow))
		list = append(list, number(begin+"digits", c.Digits), number(begin+"cash", c.Cash), number(begin+"step", c.CashStep))
		forms(begin, c.Names)
	}
	for _, u := range l.Units {
		forms("unit/"+u.Id+"/short/", u.Short)
		forms("unit/"+u.Id+"/long/", u.Long)
		if u.Per != "" {
			list = append(list, text("unit/"+u.Id+"/per", u.Per))
		}
	}
	slices.SortFunc(list, func(a, b api.Entry) int { return strings.Compare(a.Key, b.Key) })
	return list
}

func of(tables ...api.Table) api.Bundle { return api.Bundle{Tables: tables} }

func table(name string, parent int, entries ...api.Entry) api.Table {
	return api.Table{Name: name, Parent: parent, Entries: entries}
}

// expectCheck holds Check and Entries against the error; of a record that may be also its entries, and what is loaded of them.
func expectCheck(t *testing.T, what string, l api.Locale, want api.Errno) {
	t.Helper()
	if err := locale.Check(l); err != want || checkByWords(l) != want {
		t.Errorf("Check of %s: %d, by the words %d, not %d", what, err, checkByWords(l), want)
		return
	}
	list, err := locale.Entries(l)
	if want != api.OK {
		if err != want || len(list) != 0 {
			t.Errorf("Entries of %s: %s, error %d, not %d", what, short(list), err, want)
		}
		return
	}
	if words := entriesByWords(l); err != api.OK || !slices.Equal(list, words) {
		t.Errorf("Entries of %s: %s, error %d, not %s", what, short(list), err, short(words))
		return
	}
	expectLoad(t, of(table(l.Name, -1, list...)), l.Name, l)
}

func expectLoad(t *testing.T, b api.Bundle, name string, want api.Locale) {
	t.Helper()
	expectLoaded(t, b, name, want, api.OK)
}

func expectLoadError(t *testing.T, b api.Bundle, name string, want api.Errno) {
	t.Helper()
	expectLoaded(t, b, name, api.Locale{}, want)
}

func expectLoaded(t *testing.T, b api.Bundle, name string, want api.Locale, wantErr api.Errno) {
	t.Helper()
	if l, err := locale.Load(b, name); err != wantErr || !same(l, want) {
		t.Errorf("Load(%s, %q): %s, error %d, not %s, error %d", short(b), name, short(l), err, short(want), wantErr)
	}
	if l, err := loadByWords(b, name); err != wantErr || !same(l, want) {
		t.Errorf("Load(%s, %q) by the words: %s, error %d, not %s, error %d", short(b), name, short(l), err, short(want), wantErr)
	}
}
