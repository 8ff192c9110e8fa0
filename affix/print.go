package affix

import (
	"strings"

	"quipu/api"
)

// Print answers a text of which Parse tells the tokens again.
func Print(l []api.Token) (string, api.Errno) {
	if err := Check(l); err != api.OK {
		return "", err
	}
	var out strings.Builder
	for _, t := range l {
		if t.Kind == api.TokText {
			out.WriteString(textOf(t.Text))
		} else {
			out.WriteString(strings.Repeat(signs[t.Kind], max(1, t.Many)))
		}
	}
	return out.String(), api.OK
}

// textOf puts into quotes what would not be read as text else.
func textOf(rest string) string {
	var out strings.Builder
	for rest != "" {
		var free, row string
		free, rest = cut(rest, isFree)
		row, rest = cut(rest, isBound)
		out.WriteString(free + quoted(row))
	}
	return out.String()
}

// cut answers the greatest row of runes of a kind that a text begins with, and what comes behind it.
func cut(s string, is func(rune) bool) (string, string) {
	rest := strings.TrimLeftFunc(s, is)
	return s[:len(s)-len(rest)], rest
}

// isBound tells of a rune whether it is text in quotes alone, or twice; isFree the other way round.
func isBound(r rune) bool {
	s := string(r)
	return s == apostrophe || isLetter(s) || kindOf(s) != api.TokText
}

func isFree(r rune) bool { return !isBound(r) }

func quoted(row string) string {
	twice := strings.ReplaceAll(row, apostrophe, apostrophe+apostrophe)
	if strings.Trim(row, apostrophe) == "" {
		return twice
	}
	return apostrophe + twice + apostrophe
}
