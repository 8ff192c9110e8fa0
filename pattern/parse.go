package pattern

import (
	"slices"
	"strings"

	"quipu/affix"
	"quipu/api"
	"quipu/cursor"
)

const (
	letters    = "0123456789#@,.;*" // of numbers: where a prefix ends
	suffixEnds = ";*"

	mostRows = 3 // of places, with a `,` between each two: the first one is no group
)

// Parse reads a text as a pattern; Print is its text.
func Parse(s string) (api.Pattern, api.Errno) {
	if len(s) > api.MaxPattern {
		return api.Pattern{}, api.ErrPatternLong
	}
	p, ok := read(s)
	if !ok {
		return api.Pattern{}, api.ErrPatternText
	}
	if err := Check(p); err != api.OK {
		return api.Pattern{}, err
	}
	return p, api.OK
}

// read answers also patterns that may not be, for what is no text in another half is told first.
func read(s string) (p api.Pattern, ok bool) {
	var rest string
	if p.Pos, rest, ok = readHalf(s); !ok {
		return p, false
	}
	if rest, p.HasNeg = strings.CutPrefix(rest, ";"); p.HasNeg {
		p.Neg, rest, ok = readHalf(rest)
	}
	return p, ok && rest == ""
}

// readHalf answers the half that a text begins with, and what stands behind it.
func readHalf(text string) (api.Sub, string, bool) {
	s := scanner{rest: text}
	steps := [...]func() bool{
		s.filler, s.prefix, s.filler,
		s.places, s.fraction, s.exponent,
		s.filler, s.suffix, s.filler,
		s.width,
	}
	for _, step := range steps {
		if !step() {
			return api.Sub{}, "", false
		}
	}
	return s.half, s.rest, true
}

// scanner goes through the text of a half. Each step takes what it finds ahead, perhaps nothing, and answers false where no text of a half goes on so.
type scanner struct {
	rest  string // what is not taken yet
	half  api.Sub
	padAt int // of the next step for a filler
	many  int // places
}

func (s *scanner) take(size int) string {
	taken := s.rest[:size]
	s.rest = s.rest[size:]
	return taken
}

// takeRow takes the greatest row of some letters.
func (s *scanner) takeRow(of string) string {
	return s.take(len(s.rest) - len(strings.TrimLeft(s.rest, of)))
}

// filler is the step of each of the four places, in their order: beside an empty affix the first of two takes it.
func (s *scanner) filler() bool {
	at := s.padAt
	s.padAt++
	if !strings.HasPrefix(s.rest, "*") {
		return true
	}
	s.take(1)
	size := cursor.Rune(s.rest, 0)
	if size == 0 || s.half.Pad != "" {
		return false
	}
	s.half.Pad = strings.Clone(s.take(size)) // the text that is read shall not be kept in memory by it
	s.half.PadAt = at
	return true
}

func (s *scanner) prefix() (ok bool) {
	s.half.Prefix, ok = s.affix(letters)
	return ok
}

func (s *scanner) suffix() (ok bool) {
	s.half.Suffix, ok = s.affix(suffixEnds)
	return ok
}

// affix takes what stands ahead of the first of some letters.
func (s *scanner) affix(ends string) ([]api.Token, bool) {
	l, err := affix.Parse(s.take(unquoted(s.rest, ends)))
	return l, err == api.OK
}

// unquoted: where the first of some letters stands outside of quotes; the end, if none does. An apostrophe that stands twice ends a quote and begins it, or the other way round, so it needs no look ahead.
func unquoted(s, ends string) int {
	quoted := false
	for i := range len(s) {
		switch {
		case s[i] == '\'':
			quoted = !quoted
		case !quoted && strings.IndexByte(ends, s[i]) >= 0:
			return i
		}
	}
	return len(s)
}

func (s *scanner) places() bool {
	rows := strings.Split(s.takeRow("#0,"), ",")
	if len(rows) > mostRows || slices.Contains(rows, "") {
		return false
	}
	places := strings.Join(rows, "")
	noughts := strings.TrimLeft(places, "#")
	s.many, s.half.IntMin = len(places), len(noughts)
	s.setGroups(rows[1:])
	return !strings.Contains(noughts, "#")
}

// setGroups is handed the rows that have a `,` ahead of them.
func (s *scanner) setGroups(rows []string) {
	switch len(rows) {
	case 1:
		s.half.Primary = len(rows[0])
	case 2:
		s.half.Secondary, s.half.Primary = len(rows[0]), len(rows[1])
	}
}

func (s *scanner) fraction() bool {
	if !strings.HasPrefix(s.rest, ".") {
		return true
	}
	s.take(1)
	s.half.FracMin = len(s.takeRow("0"))
	s.half.FracMax = s.half.FracMin + len(s.takeRow("#"))
	return s.half.FracMax > 0
}

// exponent leaves an E that no digit follows to the suffix.
func (s *scanner) exponent() bool {
	behind, found := strings.CutPrefix(s.rest, "E")
	behind, plus := strings.CutPrefix(behind, "+")
	if found && strings.HasPrefix(behind, "0") {
		s.rest = behind
		s.half.ExpPlus = plus
		s.half.ExpMin = len(s.takeRow("0"))
	}
	return true
}

func (s *scanner) width() bool {
	if s.half.Pad != "" {
		s.half.Width = length(s.half, s.many)
	}
	return true
}
