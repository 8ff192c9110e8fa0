package locale

import (
	"slices"
	"strings"

	"quipu/api"
	"quipu/bundle"
	"quipu/cursor"
)

// loader makes a record of what a bundle says of the record's name.
type loader struct {
	draft
	from api.Bundle
	keys []string // all that there are of the name, rising
}

// takeUp makes the rows, coins and units of which there are keys, with nothing but what these are called by; false, if a key is not of the table's form.
func (l *loader) takeUp() bool {
	for _, b := range l.beginnings() {
		for _, key := range l.keys {
			if strings.HasPrefix(key, b.begin) && !b.add(key) {
				return false
			}
		}
	}
	l.Short, l.Long = once(l.Short, byPlace), once(l.Long, byPlace)
	l.Coins, l.Units = once(l.Coins, byCode), once(l.Units, byId)
	return true
}

// once: the items in order, each once, for every key has added the one of which it speaks.
func once[T comparable](items []T, order func(a, b T) int) []T {
	slices.SortFunc(items, order)
	return slices.Compact(items)
}

// fill puts into the record what the keys say; false, if one that must be there is not, or one says nothing of the kind.
func (l *loader) fill() bool {
	for _, s := range l.slots() {
		if !l.fillSlot(s) {
			return false
		}
	}
	return true
}

func (l *loader) fillSlot(s slot) bool {
	if !l.has(s.key) {
		return !s.must
	}
	e, err := bundle.Find(l.from, l.Name, s.key)
	return err == api.OK && s.put(e)
}

func (l *loader) has(key string) bool {
	_, ok := slices.BinarySearch(l.keys, key)
	return ok
}

// complete says what follows of the keys that are not there.
func (l *loader) complete() {
	for i := range l.Coins {
		c := &l.Coins[i]
		if !l.has(coinBegin + c.Code + "/narrow") {
			c.Narrow = c.Symbol
		}
		if !l.has(coinBegin + c.Code + "/cash") {
			c.Cash = c.Digits
		}
	}
}

// splitDigits leaves the Digits empty, as no record may have them, if there are not as many runes.
func (l *loader) splitDigits() {
	digits := &l.Symbols.Digits
	if cursor.Runes(l.digits) != len(digits) {
		return
	}
	rest := l.digits
	for i := range digits {
		size := cursor.Rune(rest, 0)
		digits[i], rest = rest[:size], rest[size:]
	}
}

func addRow(rows *[]api.Compact, key string) bool {
	parts := strings.Split(key, "/")
	if len(parts) != 3 || !isExp(parts[1]) {
		return false
	}
	for category, name := range categoryNames {
		if name == parts[2] {
			*rows = append(*rows, api.Compact{Exp: expOf(parts[1]), Category: category})
			return true
		}
	}
	return false
}

func addCoin(coins *[]api.Coin, key string) bool {
	c := api.Coin{Code: called(key)}
	*coins = append(*coins, c)
	return isCode(c.Code) && hasKey(coinSlots(&c), key)
}

func addUnit(units *[]api.Unit, key string) bool {
	u := api.Unit{Id: called(key)}
	*units = append(*units, u)
	return isId(u.Id) && hasKey(unitSlots(&u), key)
}

// called: what the coin, or the unit, is called by of which a key speaks that has a beginning.
func called(key string) string { return strings.Split(key, "/")[1] }

func hasKey(list []slot, key string) bool {
	return slices.ContainsFunc(list, func(s slot) bool { return s.key == key })
}

func isExp(s string) bool { return len(s) == 2 && isOf(s, expDigits) }

func expOf(s string) int { return 10*int(s[0]-'0') + int(s[1]-'0') }
