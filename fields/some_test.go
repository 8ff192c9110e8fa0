package fields_test

import (
	"math"
	"math/rand/v2"
	"slices"

	"quipu/api"
)

func source() *rand.Rand { return rand.New(rand.NewPCG(17, 1)) }

func oneOf[T any](r *rand.Rand, list ...T) T { return list[r.IntN(len(list))] }

// someText: of runes of one to four bytes.
func someText(r *rand.Rand, most int) string {
	text := ""
	for range r.IntN(most + 1) {
		text += oneOf(r, "a", "b", "1", "\x00", "é", "€", "\U0001F600", "\u0301", "\u00a0", "\ufffd")
	}
	return text
}

// broken: texts that are not UTF-8.
func broken() []string {
	return []string{"\xff", "\x80", "\xc3", "a\xc3", "\xc3a", "\xe2\x82", "\xc0\x80", "\xc1\xbf", "\xed\xa0\x80", "\xe0\x9f\xbf", "\xf0\x8f\xbf\xbf", "\xf4\x90\x80\x80", "\xf5\x80\x80\x80", "é\xa9", "\xf0\x9f\x98", "a\xe2\x82b"}
}

// edges: numbers that are no places of a text of some bytes, and some that are.
func edges() []int {
	return []int{math.MinInt, math.MinInt + 1, -1 << 32, -2, -1, 0, 1, 2, 3, 4, 5, 1 << 31, 1 << 32, 1<<32 + 1, math.MaxInt - 1, math.MaxInt}
}

func fieldEdges() []int {
	return []int{math.MinInt, -1 << 32, -2, -1, 0, 1, 2, 16, 17, 18, 19, 256, 1<<32 + 1, math.MaxInt}
}

func someField(r *rand.Rand) int {
	if r.IntN(20) == 0 {
		return oneOf(r, fieldEdges()...)
	}
	return 1 + r.IntN(17)
}

// someOut may be.
func someOut(r *rand.Rand) api.Out {
	o := api.Out{Text: someText(r, 8)}
	places := placesInOrder(o.Text)
	for range r.IntN(10) {
		from, to := oneOf(r, places...), oneOf(r, places...)
		if wrapped, e := wrapByWords(o, 1+r.IntN(17), from, to); e == api.OK {
			o = wrapped
		}
	}
	return o
}

func placesInOrder(text string) []int {
	var l []int
	for place := range placesByWords(text) {
		l = append(l, place)
	}
	slices.Sort(l)
	return l
}

// anyOut may be, or may not.
func anyOut(r *rand.Rand) api.Out {
	o := someOut(r)
	switch r.IntN(6) {
	case 0:
		o.Text += oneOf(r, broken()...)
	case 1:
		o.Text = oneOf(r, broken()...) + o.Text
	case 2:
		r.Shuffle(len(o.Spans), func(i, j int) { o.Spans[i], o.Spans[j] = o.Spans[j], o.Spans[i] })
	case 3:
		s := api.Span{Field: someField(r), From: r.IntN(len(o.Text)+3) - 1, To: r.IntN(len(o.Text)+3) - 1}
		o.Spans = slices.Insert(o.Spans, r.IntN(len(o.Spans)+1), s)
	case 4:
		for i := range o.Spans {
			o.Spans[i].From += r.IntN(2)
			o.Spans[i].To -= r.IntN(2)
		}
	}
	return o
}

// allOuts tells each list of at most so many spans within a text of so many bytes, that it may be or not.
func allOuts(n, most int, tell func(o api.Out)) {
	text := "abcdefgh"[:n]
	var places []api.Span
	for from := range n {
		for to := from + 1; to <= n; to++ {
			places = append(places, api.Span{From: from, To: to})
		}
	}
	var more func(l []api.Span)
	more = func(l []api.Span) {
		tell(api.Out{Text: text, Spans: slices.Clone(l)})
		if len(l) == most {
			return
		}
		for i, s := range places {
			s.Field = 1 + (i+len(l))%17
			more(append(l, s))
		}
	}
	more(nil)
}

// somePieces: often rows of digits.
func somePieces(r *rand.Rand) []api.Piece {
	var l []api.Piece
	for range r.IntN(9) {
		p := api.Piece{Text: someText(r, 2), Field: r.IntN(18)}
		if r.IntN(2) == 0 {
			p.Field = oneOf(r, api.Integer, api.Group)
		}
		l = append(l, p)
	}
	return l
}
