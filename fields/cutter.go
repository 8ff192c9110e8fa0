package fields

import "quipu/api"

// A cutter goes through a text from its beginning, and has the leaves up to where it is, and the spans that it is within, the innermost one last.
type cutter struct {
	text   string
	at     int
	open   []api.Span
	leaves []api.Piece
}

// goTo leaves, on the way to a place, each span that ends there or ahead of it.
func (c *cutter) goTo(place int) {
	for len(c.open) > 0 && c.innermost().To <= place {
		c.cut(c.innermost().To)
		c.open = c.open[:len(c.open)-1]
	}
	c.cut(place)
}

func (c *cutter) cut(place int) {
	if place == c.at {
		return
	}
	c.leaves = append(c.leaves, api.Piece{Text: c.text[c.at:place], Field: c.innermost().Field})
	c.at = place
}

// innermost answers a span of Literal, if it is within none.
func (c *cutter) innermost() api.Span {
	if len(c.open) == 0 {
		return api.Span{Field: api.Literal}
	}
	return c.open[len(c.open)-1]
}
