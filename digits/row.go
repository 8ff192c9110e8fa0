package digits

import "quipu/api"

// A row is the pieces that are put so far; an empty text is none.
type row []api.Piece

func (l *row) put(text string, field int) {
	if text != "" {
		*l = append(*l, api.Piece{Text: text, Field: field})
	}
}

// putGroups puts a separator also beside a group whose digits have empty texts: it stands between the digits, whatever these look like.
func (l *row) putGroups(groups [][]string, separator string) {
	for i, group := range groups {
		if i > 0 {
			l.put(separator, api.Group)
		}
		l.put(joined(group), api.Integer)
	}
}
