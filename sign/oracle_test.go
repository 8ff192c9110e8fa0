package sign_test

import (
	"fmt"
	"slices"
	"strings"
	"testing"

	"quipu/affix"
	"quipu/api"
	"quipu/pattern"
	"quipu/sign"
)

// The chapter's words, by another way than the program's: what the program is held against.

// signsByWords: by each display those of NaN, below zero, -0, 0, above zero.
var signsByWords = [5][5]int{
	api.SignAuto:       {0, -1, -1, 0, 0},
	api.SignAlways:     {0, -1, -1, 1, 1},
	api.SignNever:      {0, 0, 0, 0, 0},
	api.SignExceptZero: {0, -1, 0, 0, 1},
	api.SignNegative:   {0, -1, 0, 0, 0},
}

func ofByWords(x api.Shown, display int) (int, api.Errno) {
	if display != min(max(display, 0), 4) {
		return 0, 190
	}
	all := x.Int + x.Frac
	zero := x.Class == 0 && strings.Count(all, "0") == len(all)
	column := 4
	switch {
	case x.Class == 2:
		column = 0
	case x.Neg && zero:
		column = 2
	case x.Neg:
		column = 1
	case zero:
		column = 3
	}
	return signsByWords[display][column], 0
}

type told struct {
	before, after []api.Token
	err           api.Errno
}

func affixesOf(before, after []api.Token, err api.Errno) told { return told{before, after, err} }

// affixesByWords puts the sign's token in the place of minuses of Neg, or else ahead.
func affixesByWords(p api.Pattern, n int) told {
	if n*n > 1 || n > 1 || n < -1 {
		return told{err: 190}
	}
	minuses := 0
	for _, t := range slices.Concat(p.Neg.Prefix, p.Neg.Suffix) {
		if t.Kind == 1 {
			minuses++
		}
	}
	if p.HasNeg && (n == -1 || n == 1 && minuses > 0) {
		return told{before: signedByWords(p.Neg.Prefix, n), after: signedByWords(p.Neg.Suffix, n)}
	}
	var ahead []api.Token
	if n != 0 {
		ahead = append(ahead, map[int]api.Token{-1: minus, 1: plus}[n])
	}
	return told{before: append(ahead, p.Pos.Prefix...), after: append([]api.Token{}, p.Pos.Suffix...)}
}

func signedByWords(l []api.Token, n int) []api.Token {
	var signed []api.Token
	for _, t := range l {
		if t.Kind == 1 && n == 1 {
			t = plus
		}
		signed = append(signed, t)
	}
	return signed
}

func piecesByWords(l []api.Token, s api.Symbols, coin string) []api.Piece {
	symbols := map[int]api.Piece{
		1: {Text: s.Minus, Field: 1}, 2: {Text: s.Plus, Field: 1}, 3: {Text: s.Percent, Field: 9}, 4: {Text: s.Permille, Field: 10}, 5: {Text: coin, Field: 11},
	}
	var pieces []api.Piece
	for _, t := range l {
		p := symbols[t.Kind]
		if t.Kind == 0 {
			p = api.Piece{Text: t.Text}
		}
		pieces = append(pieces, p)
	}
	return slices.DeleteFunc(pieces, func(p api.Piece) bool { return len(p.Text) == 0 })
}

func expectOf(t *testing.T, x api.Shown, display, want int, wantErr api.Errno) {
	t.Helper()
	if n, err := sign.Of(x, display); n != want || err != wantErr {
		t.Errorf("Of(%s, %d): %d, %d, not %d, %d", short(x), display, n, err, want, wantErr)
	}
	if n, err := ofByWords(x, display); n != want || err != wantErr {
		t.Errorf("Of(%s, %d) by the words: %d, %d, not %d, %d", short(x), display, n, err, want, wantErr)
	}
}

// expectOfAll: by the displays 0 to 4.
func expectOfAll(t *testing.T, x api.Shown, want ...int) {
	t.Helper()
	for display := range 5 {
		expectOf(t, x, display, want[display], api.OK)
	}
	expectOf(t, x, -1, 0, api.ErrSignForm)
	expectOf(t, x, 5, 0, api.ErrSignForm)
}

// expectOfWords: the program against the words alone.
func expectOfWords(t *testing.T, x api.Shown, display int) {
	t.Helper()
	n, err := ofByWords(x, display)
	expectOf(t, x, display, n, err)
}

func (a told) same(b told) bool {
	return slices.Equal(a.before, b.before) && slices.Equal(a.after, b.after) && a.err == b.err
}

func expectAffixes(t *testing.T, p api.Pattern, n int, want told) {
	t.Helper()
	if got := affixesOf(sign.Affixes(p, n)); !got.same(want) {
		t.Errorf("Affixes(%s, %d): %s, not %s", short(p), n, short(got), short(want))
	}
	if got := affixesByWords(p, n); !got.same(want) {
		t.Errorf("Affixes(%s, %d) by the words: %s, not %s", short(p), n, short(got), short(want))
	}
}

func expectAffixesWords(t *testing.T, p api.Pattern, n int) {
	t.Helper()
	expectAffixes(t, p, n, affixesByWords(p, n))
}

// expectText: the affixes of a pattern's text, as texts.
func expectText(t *testing.T, text string, n int, before, after string) {
	t.Helper()
	p, err := pattern.Parse(text)
	if err != api.OK {
		t.Fatalf("the pattern %q: %d", text, err)
	}
	expectAffixes(t, p, n, told{before: parsed(t, before), after: parsed(t, after)})
}

func parsed(t *testing.T, text string) []api.Token {
	t.Helper()
	l, err := affix.Parse(text)
	if err != api.OK {
		t.Fatalf("the affix %q: %d", text, err)
	}
	return l
}

func expectPieces(t *testing.T, l []api.Token, s api.Symbols, coin string, want ...api.Piece) {
	t.Helper()
	if pieces := sign.Pieces(l, s, coin); !slices.Equal(pieces, want) {
		t.Errorf("Pieces(%s, %s, %q): %s, not %s", short(l), short(s), coin, short(pieces), short(want))
	}
	if pieces := piecesByWords(l, s, coin); !slices.Equal(pieces, want) {
		t.Errorf("Pieces(%s, %s, %q) by the words: %s, not %s", short(l), short(s), coin, short(pieces), short(want))
	}
}

func expectPiecesWords(t *testing.T, l []api.Token, s api.Symbols, coin string) {
	t.Helper()
	expectPieces(t, l, s, coin, piecesByWords(l, s, coin)...)
}

func short(x any) string { return fmt.Sprintf("%.300s", fmt.Sprintf("%+q", x)) }
