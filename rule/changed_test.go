package rule_test

import (
	"math/rand/v2"
	"slices"
)

// changed answers a text of the parts, some of them changed, or some of its bytes.
func changed(r *rand.Rand, list, others []string) string {
	for range r.IntN(3) {
		list = changedPart(r, list, others)
	}
	text := withBlanks(r, list)
	if r.IntN(3) == 0 {
		text = changedByte(r, text)
	}
	return text
}

func changedPart(r *rand.Rand, list, others []string) []string {
	list = slices.Clone(list)
	at := r.IntN(len(list) + 1)
	if r.IntN(3) == 0 || at == len(list) {
		return slices.Insert(list, at, oneOf(r, others...))
	}
	switch r.IntN(3) {
	case 0:
		return slices.Delete(list, at, at+1)
	case 1:
		list[at] = oneOf(r, others...)
	case 2:
		other := r.IntN(len(list))
		list[at], list[other] = list[other], list[at]
	}
	return list
}

func changedByte(r *rand.Rand, text string) string {
	at := r.IntN(len(text) + 1)
	one := oneOf(r, " ", "0", "1", "9", "a", "n", "i", ":", ";", "%", "=", "!", ",", ".", "..", "+", "\t", "\x80", "é", "N")
	if at == len(text) || r.IntN(2) == 0 {
		return text[:at] + one + text[at:]
	}
	if r.IntN(2) == 0 {
		one = ""
	}
	return text[:at] + one + text[at+1:]
}
