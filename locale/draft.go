package locale

import (
	"slices"

	"quipu/api"
)

// The beginnings of the keys of which there are as many as a record has rows, coins and units.
const (
	shortBegin = "short/"
	longBegin  = "long/"
	coinBegin  = "coin/"
	unitBegin  = "unit/"
)

// categoryNames are the words of the categories, each at its number.
var categoryNames = [...]string{"zero", "one", "two", "few", "many", "other"}

// draft is a record on the way from its entries, or to them: its digits are one text there.
type draft struct {
	api.Locale
	digits string
}

// beginning tells what is done with the keys that begin so: add takes up the row, the coin or the unit of which a key speaks, and answers false at a key that is not of the table's form; slots are those of all that there are.
type beginning struct {
	begin string
	add   func(key string) bool
	slots func() []slot
}

func (d *draft) beginnings() []beginning {
	return []beginning{
		{
			begin: shortBegin,
			add:   func(key string) bool { return addRow(&d.Short, key) },
			slots: func() []slot { return rowSlots(shortBegin, d.Short) },
		},
		{
			begin: longBegin,
			add:   func(key string) bool { return addRow(&d.Long, key) },
			slots: func() []slot { return rowSlots(longBegin, d.Long) },
		},
		{
			begin: coinBegin,
			add:   func(key string) bool { return addCoin(&d.Coins, key) },
			slots: func() []slot { return slotsOfEach(d.Coins, coinSlots) },
		},
		{
			begin: unitBegin,
			add:   func(key string) bool { return addUnit(&d.Units, key) },
			slots: func() []slot { return slotsOfEach(d.Units, unitSlots) },
		},
	}
}

// slots point into the lists of the record, which may not change their places from then on.
func (d *draft) slots() []slot {
	list := d.plainSlots()
	for _, b := range d.beginnings() {
		list = append(list, b.slots()...)
	}
	return list
}

func (d *draft) plainSlots() []slot {
	s := &d.Symbols
	return must(
		textSlot("digits", &d.digits),
		textSlot("decimal", &s.Decimal), textSlot("group", &s.Group),
		textSlot("minus", &s.Minus), textSlot("plus", &s.Plus),
		textSlot("percent", &s.Percent), textSlot("permille", &s.Permille),
		textSlot("exponent", &s.Exponent),
		textSlot("infinity", &s.Infinity), textSlot("nan", &s.NaN),
		textSlot("approximately", &s.Approximately), textSlot("range", &s.Range),
		numberSlot("mingroup", &d.MinGroup),
		textSlot("pattern/decimal", &d.DecimalPattern), textSlot("pattern/percent", &d.PercentPattern),
		textSlot("pattern/money", &d.MoneyPattern), textSlot("pattern/accounting", &d.AccountingPattern),
		textSlot("cardinal", &d.Cardinal), textSlot("ordinal", &d.Ordinal), textSlot("ranges", &d.Ranges),
		textSlot("spacing", &d.Spacing),
	)
}

func rowSlots(begin string, rows []api.Compact) []slot {
	return slotsOfEach(rows, func(row *api.Compact) []slot {
		key := begin + twoDigits(row.Exp) + "/" + categoryNames[row.Category]
		return must(textSlot(key, &row.Pattern))
	})
}

func coinSlots(c *api.Coin) []slot {
	begin := coinBegin + c.Code + "/"
	return slices.Concat(
		must(textSlot(begin+"symbol", &c.Symbol), numberSlot(begin+"digits", &c.Digits)),
		may(textSlot(begin+"narrow", &c.Narrow), numberSlot(begin+"cash", &c.Cash), numberSlot(begin+"step", &c.CashStep)),
		formSlots(begin, &c.Names),
	)
}

func unitSlots(u *api.Unit) []slot {
	begin := unitBegin + u.Id + "/"
	return slices.Concat(
		formSlots(begin+"short/", &u.Short),
		formSlots(begin+"long/", &u.Long),
		may(textSlot(begin+"per", &u.Per)),
	)
}

func formSlots(begin string, forms *[api.Categories]string) []slot {
	var list []slot
	for category, name := range categoryNames {
		s := textSlot(begin+name, &forms[category])
		s.must = category == api.Other
		list = append(list, s)
	}
	return list
}

func slotsOfEach[T any](items []T, slots func(*T) []slot) []slot {
	var list []slot
	for i := range items {
		list = append(list, slots(&items[i])...)
	}
	return list
}

// twoDigits writes an Exp of two digits at most.
func twoDigits(exp int) string { return string([]byte{'0' + byte(exp/10), '0' + byte(exp%10)}) }
