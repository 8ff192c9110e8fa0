package cursor

import "unicode/utf8"

// Rune tells how many bytes the rune has that begins at a place; 0: none begins there.
func Rune(s string, at int) int {
	if at < 0 || at >= len(s) {
		return 0
	}
	r, size := utf8.DecodeRuneInString(s[at:])
	if r == utf8.RuneError && size == 1 { // the rune that stands for an error can be there itself, and has three bytes then
		return 0
	}
	return size
}

// Valid tells whether bytes are UTF-8; Runes how many runes they have (-1: they are no UTF-8).
func Valid(s string) bool { return utf8.ValidString(s) }

func Runes(s string) int {
	if !Valid(s) {
		return -1
	}
	return utf8.RuneCountInString(s)
}
