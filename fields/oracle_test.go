package fields_test

import (
	"fmt"
	"slices"
	"strconv"
	"strings"
	"testing"

	"quipu/api"
	"quipu/cursor"
	"quipu/fields"
)

// The chapter's words, by another way than the program's: what the program is held against.

func repeat(s string, n int) string { return strings.Repeat(s, n) }

// letters: one for each field, by its number: L of Literal, S of Sign, I of Integer ..
const letters = "LSIGDFXYZPQCMKARTN"

// spans reads what told tells: a letter and both places of each.
func spans(list string) []api.Span {
	var l []api.Span
	for _, word := range strings.Fields(list) {
		from, to, _ := strings.Cut(word[1:], "-")
		s := api.Span{Field: strings.IndexByte(letters, word[0])}
		s.From, _ = strconv.Atoi(from)
		s.To, _ = strconv.Atoi(to)
		l = append(l, s)
	}
	return l
}

func out(text, list string) api.Out { return api.Out{Text: text, Spans: spans(list)} }

// pieces reads a letter and a text of each, with a bar between.
func pieces(list string) []api.Piece {
	var l []api.Piece
	for word := range strings.SplitSeq(list, "|") {
		if word != "" {
			l = append(l, api.Piece{Text: word[1:], Field: strings.IndexByte(letters, word[0])})
		}
	}
	return l
}

func letter(field int) string {
	if field < 0 || field >= len(letters) {
		return fmt.Sprintf("(%d)", field)
	}
	return letters[field : field+1]
}

func toldSpans(l []api.Span) string {
	var words []string
	for _, s := range l {
		words = append(words, fmt.Sprintf("%s%d-%d", letter(s.Field), s.From, s.To))
	}
	return strings.Join(words, " ")
}

func told(o api.Out, e api.Errno) string {
	if e != api.OK {
		return fmt.Sprint("error ", e, shadow(o.Text, len(o.Spans)))
	}
	return strings.TrimSpace(o.Text + ": " + toldSpans(o.Spans))
}

func toldPieces(l []api.Piece, e api.Errno) string {
	if e != api.OK {
		return fmt.Sprint("error ", e, shadow("", len(l)))
	}
	var words []string
	for _, p := range l {
		words = append(words, letter(p.Field)+p.Text)
	}
	return strings.Join(words, "|")
}

// shadow: what stands beside an error, where nothing may.
func shadow(text string, n int) string {
	if text == "" && n == 0 {
		return ""
	}
	return fmt.Sprintf(" beside %q and %d more", text, n)
}

func short(s string) string { return fmt.Sprintf("%.300q", s) }

const refused = "error 170"

func placesByWords(text string) map[int]bool {
	places := map[int]bool{len(text): true}
	for at := 0; at < len(text); at += cursor.Rune(text, at) {
		places[at] = true
	}
	return places
}

// bytesOf: those that a span has, of at most 64.
func bytesOf(s api.Span) uint64 {
	set := uint64(0)
	for i := s.From; i < s.To; i++ {
		set |= 1 << i
	}
	return set
}

func crossByWords(a, b api.Span) bool {
	both := bytesOf(a) & bytesOf(b)
	return both != 0 && both != bytesOf(a) && both != bytesOf(b)
}

// mayByWords: of texts of at most 64 bytes.
func mayByWords(o api.Out) bool {
	if !cursor.Valid(o.Text) {
		return false
	}
	places := placesByWords(o.Text)
	for i, s := range o.Spans {
		if s.Field < 1 || s.Field > 17 || !places[s.From] || !places[s.To] || !(s.From < s.To) {
			return false
		}
		for _, former := range o.Spans[:i] {
			if former.From > s.From || former.From == s.From && former.To < s.To || crossByWords(former, s) {
				return false
			}
		}
	}
	return true
}

func isRow(l []api.Piece) bool {
	for i, p := range l {
		edge := i == 0 || i == len(l)-1
		if p.Field != 2 && (edge || p.Field != 3) {
			return false
		}
	}
	return len(l) > 0
}

// isLongest: no row that has it within is longer.
func isLongest(l []api.Piece, from, to int) bool {
	for i := 0; i <= from; i++ {
		for j := to; j <= len(l); j++ {
			if (i != from || j != to) && isRow(l[i:j]) {
				return false
			}
		}
	}
	return isRow(l[from:to])
}

func buildByWords(l []api.Piece) (api.Out, api.Errno) {
	var full []api.Piece
	places := []int{0}
	text := ""
	for _, p := range l {
		if p.Field < 0 || p.Field > 17 || !cursor.Valid(p.Text) {
			return api.Out{}, 170
		}
		if p.Text != "" {
			full, text = append(full, p), text+p.Text
			places = append(places, len(text))
		}
	}
	o := api.Out{Text: text}
	for i, p := range full {
		if p.Field != 0 && p.Field != 2 {
			o.Spans = append(o.Spans, api.Span{Field: p.Field, From: places[i], To: places[i+1]})
		}
		for j := i + 1; j <= len(full); j++ {
			if isLongest(full, i, j) {
				o.Spans = append(o.Spans, api.Span{Field: 2, From: places[i], To: places[j]})
			}
		}
	}
	sortByWords(o.Spans)
	return o, api.OK
}

// sortByWords: one by one to the place ahead of all that are behind it in the order.
func sortByWords(l []api.Span) {
	for i := range l {
		for j := i; j > 0 && (l[j].From < l[j-1].From || l[j].From == l[j-1].From && l[j].To > l[j-1].To); j-- {
			l[j], l[j-1] = l[j-1], l[j]
		}
	}
}

// wrapByWords tries all places among the spans, from the first one on.
func wrapByWords(o api.Out, field, from, to int) (api.Out, api.Errno) {
	if !mayByWords(o) {
		return api.Out{}, 170
	}
	for i := 0; i <= len(o.Spans); i++ {
		wrapped := api.Out{Text: o.Text, Spans: slices.Insert(slices.Clone(o.Spans), i, api.Span{Field: field, From: from, To: to})}
		if mayByWords(wrapped) {
			return wrapped, api.OK
		}
	}
	return api.Out{}, 170
}

// leavesByWords goes byte by byte.
func leavesByWords(o api.Out) ([]api.Piece, api.Errno) {
	if !mayByWords(o) {
		return nil, 170
	}
	var l []api.Piece
	for i := range len(o.Text) {
		field, begins := 0, i == 0
		for _, s := range o.Spans {
			if s.From <= i && i < s.To {
				field = s.Field
			}
			begins = begins || s.From == i || s.To == i
		}
		if begins {
			l = append(l, api.Piece{Field: field})
		}
		l[len(l)-1].Text += o.Text[i : i+1]
	}
	return l, api.OK
}

// An item is what All tells at once.
type item struct {
	span api.Span
	text string
}

func allByWords(o api.Out) []item {
	var l []item
	if mayByWords(o) {
		for _, s := range o.Spans {
			l = append(l, item{s, o.Text[s.From:s.To]})
		}
	}
	return l
}

func all(o api.Out) []item {
	var l []item
	for s, text := range fields.All(o) {
		l = append(l, item{s, text})
	}
	return l
}

func expectCheck(t *testing.T, o api.Out, may bool) {
	t.Helper()
	if mayByWords(o) != may {
		t.Errorf("by the words %s: %t", short(told(o, 0)), !may)
	}
	expectCheckByWords(t, o)
}

func expectCheckByWords(t *testing.T, o api.Out) {
	t.Helper()
	want := api.Errno(170)
	if mayByWords(o) {
		want = api.OK
	}
	if e := fields.Check(o); e != want {
		t.Errorf("Check of %s: %d, by the words %d", short(told(o, 0)), e, want)
	}
}

func expectBuild(t *testing.T, l []api.Piece, want string) {
	t.Helper()
	if got := told(buildByWords(l)); got != want {
		t.Errorf("by the words, of %s is built %s, not %s", short(toldPieces(l, 0)), short(got), short(want))
	}
	expectBuildByWords(t, l)
}

func expectBuildByWords(t *testing.T, l []api.Piece) {
	t.Helper()
	if got, want := told(fields.Build(l)), told(buildByWords(l)); got != want {
		t.Errorf("Build of %s: %s, by the words %s", short(toldPieces(l, 0)), short(got), short(want))
	}
}

func expectWrap(t *testing.T, o api.Out, field, from, to int, want string) {
	t.Helper()
	if got := told(wrapByWords(o, field, from, to)); got != want {
		t.Errorf("by the words, %s in %d %d-%d is %s, not %s", short(told(o, 0)), field, from, to, short(got), short(want))
	}
	expectWrapByWords(t, o, field, from, to)
}

func expectWrapByWords(t *testing.T, o api.Out, field, from, to int) {
	t.Helper()
	if got, want := told(fields.Wrap(o, field, from, to)), told(wrapByWords(o, field, from, to)); got != want {
		t.Errorf("Wrap of %s in %d %d-%d: %s, by the words %s", short(told(o, 0)), field, from, to, short(got), short(want))
	}
}

func expectLeaves(t *testing.T, o api.Out, want string) {
	t.Helper()
	if got := toldPieces(leavesByWords(o)); got != want {
		t.Errorf("by the words, the leaves of %s are %s, not %s", short(told(o, 0)), short(got), short(want))
	}
	expectLeavesByWords(t, o)
}

func expectLeavesByWords(t *testing.T, o api.Out) {
	t.Helper()
	if got, want := toldPieces(fields.Leaves(o)), toldPieces(leavesByWords(o)); got != want {
		t.Errorf("Leaves of %s: %s, by the words %s", short(told(o, 0)), short(got), short(want))
	}
}

func expectAllByWords(t *testing.T, o api.Out) {
	t.Helper()
	if got, want := all(o), allByWords(o); !slices.Equal(got, want) {
		t.Errorf("All of %s: %v, by the words %v", short(told(o, 0)), got, want)
	}
}
