package rule

import (
	"iter"
	"strings"

	"quipu/api"
)

const blank = " "

// parts goes through the parts of a text, and gives up at a byte that begins none.
func parts(text string) iter.Seq[string] {
	return func(yield func(part string) bool) {
		rest := strings.TrimLeft(text, blank)
		for rest != "" {
			size := partSize(rest)
			if !yield(rest[:size]) {
				return
			}
			rest = strings.TrimLeft(rest[size:], blank)
		}
	}
}

// partSize takes a text that is not empty, and answers how many bytes its first part has.
func partSize(text string) int {
	switch {
	case isLetter(text[0]):
		return rowSize(text, isLetter)
	case isDigit(text[0]):
		return rowSize(text, isDigit)
	case strings.HasPrefix(text, "!=") || strings.HasPrefix(text, ".."):
		return 2
	case strings.IndexByte(":;%=,+", text[0]) >= 0:
		return 1
	}
	panic(api.ErrRuleText)
}

// rowSize goes by bytes, not by runes: a text may be no UTF-8.
func rowSize(text string, is func(byte) bool) int {
	size := 0
	for size < len(text) && is(text[size]) {
		size++
	}
	return size
}

func isLetter(b byte) bool { return b >= 'a' && b <= 'z' }

func isDigit(b byte) bool { return b >= '0' && b <= '9' }

// gather answers the parts in a list, because how a row of parts is to be read can hang on a part further on.
func gather(text string) []string {
	var list []string
	for part := range parts(text) {
		list = append(list, part)
	}
	return list
}

// between goes through the rows of parts ahead of, between and behind the separators. A separator with nothing ahead or behind makes an empty row, at which whatever reads the rows gives up.
func between(list []string, separator string) iter.Seq[[]string] {
	return func(yield func(row []string) bool) {
		from := 0
		for i, part := range list {
			if part != separator {
				continue
			}
			if !yield(list[from:i]) {
				return
			}
			from = i + 1
		}
		yield(list[from:])
	}
}
