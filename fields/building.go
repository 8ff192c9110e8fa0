package fields

import (
	"strings"

	"quipu/api"
)

// A building is a text, and its spans in the order in which they end; digits is the row of Integer and Group pieces that may still go on, up to its last Integer; its To is 0, if there is none.
type building struct {
	text   strings.Builder
	spans  []api.Span
	digits api.Span
}

// put puts a piece that is not empty.
func (b *building) put(p api.Piece) {
	own := api.Span{Field: p.Field, From: b.text.Len(), To: b.text.Len() + len(p.Text)}
	b.text.WriteString(p.Text)
	switch p.Field {
	case api.Integer:
		b.putDigits(own)
	case api.Group:
		b.spans = append(b.spans, own)
	case api.Literal:
		b.endDigits()
	default:
		b.endDigits()
		b.spans = append(b.spans, own)
	}
}

func (b *building) putDigits(own api.Span) {
	if b.digits.To == 0 {
		b.digits = own
	}
	b.digits.To = own.To
}

func (b *building) endDigits() {
	if b.digits.To > 0 {
		b.spans = append(b.spans, b.digits)
	}
	b.digits = api.Span{}
}
