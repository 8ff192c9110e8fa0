package locale

import (
	"cmp"
	"strings"

	"quipu/api"
	"quipu/cursor"
)

const (
	firstPlace  = "{0}" // where a form, or a range, has a number
	secondPlace = "{1}" // where a range has another one

	codeLetters = "ABCDEFGHIJKLMNOPQRSTUVWXYZ"
	idLetters   = "abcdefghijklmnopqrstuvwxyz-"
	expDigits   = "0123456789"

	codeLength = 3
	mostId     = 16
)

func isText(s string, most int) bool { return len(s) <= most && cursor.Valid(s) }

func isSymbol(s string) bool { return s != "" && isText(s, api.MaxText) }

// isForm takes symbols alone, for there is no form of a record that may be none.
func isForm(s string) bool { return isSymbol(s) && strings.Count(s, firstPlace) == 1 }

func isFormOrEmpty(s string) bool { return s == "" || isForm(s) }

func isRange(s string) bool {
	between := strings.Index(s, secondPlace) - strings.Index(s, firstPlace) - len(firstPlace)
	return isForm(s) && strings.Count(s, secondPlace) == 1 && between > 0
}

func isCode(s string) bool { return len(s) == codeLength && isOf(s, codeLetters) }

func isId(s string) bool { return within(len(s), 1, mostId) && isOf(s, idLetters) }

func isOf(s, letters string) bool { return strings.Trim(s, letters) == "" }

func within(n, least, most int) bool { return least <= n && n <= most }

func all[T any](may func(T) bool, items ...T) bool {
	for _, item := range items {
		if !may(item) {
			return false
		}
	}
	return true
}

// rising: does each item stand behind the one ahead of it, and is none the same?
func rising[T any](items []T, order func(a, b T) int) bool {
	for i := range items {
		if i > 0 && order(items[i-1], items[i]) >= 0 {
			return false
		}
	}
	return true
}

func byPlace(a, b api.Compact) int {
	return cmp.Or(cmp.Compare(a.Exp, b.Exp), cmp.Compare(a.Category, b.Category))
}

func byCode(a, b api.Coin) int { return cmp.Compare(a.Code, b.Code) }

func byId(a, b api.Unit) int { return cmp.Compare(a.Id, b.Id) }
