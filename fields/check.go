package fields

import (
	"cmp"
	"slices"
	"unicode/utf8"

	"quipu/api"
)

// Check: may it be?
func Check(o api.Out) api.Errno {
	misplaced := func(s api.Span) bool {
		return s.Field == api.Literal || !known(s.Field) || !place(o.Text, s.From) || !place(o.Text, s.To) || s.From >= s.To
	}
	if !utf8.ValidString(o.Text) || slices.ContainsFunc(o.Spans, misplaced) || !slices.IsSortedFunc(o.Spans, compare) || crossed(o.Spans) {
		return api.ErrFieldsForm
	}
	return api.OK
}

func known(field int) bool { return 0 <= field && field < api.Fields }

func unfit(p api.Piece) bool { return !known(p.Field) || !utf8.ValidString(p.Text) }

func place(text string, at int) bool {
	return at == len(text) || 0 <= at && at < len(text) && utf8.RuneStart(text[at])
}

// compare: the longer one of two that begin together stands first, so what is within stands behind.
func compare(a, b api.Span) int {
	return cmp.Or(cmp.Compare(a.From, b.From), cmp.Compare(b.To, a.To))
}

// crossed goes by the spans' order: the open ones are nested, so the last one of them is the first to end, and it alone has to be looked at.
func crossed(l []api.Span) bool {
	var ends []int
	for _, s := range l {
		for len(ends) > 0 && ends[len(ends)-1] <= s.From {
			ends = ends[:len(ends)-1]
		}
		if len(ends) > 0 && ends[len(ends)-1] < s.To {
			return true
		}
		ends = append(ends, s.To)
	}
	return false
}
