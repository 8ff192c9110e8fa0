package sign_test

import (
	"slices"
	"sync"
	"testing"

	"quipu/api"
	"quipu/sign"
)

// R3, R4, R5

// roomy: the same tokens, in a list with room behind it, which has been written on.
func roomy(l []api.Token) []api.Token {
	return append(slices.Clone(l), text("room"), minus, coin(9), text("behind"))[:len(l)]
}

func roomyPattern(p api.Pattern) api.Pattern {
	p.Pos.Prefix, p.Pos.Suffix = roomy(p.Pos.Prefix), roomy(p.Pos.Suffix)
	p.Neg.Prefix, p.Neg.Suffix = roomy(p.Neg.Prefix), roomy(p.Neg.Suffix)
	return p
}

// wholeLists: a pattern's lists with the room behind them.
func wholeLists(p api.Pattern) [][]api.Token {
	lists := [][]api.Token{p.Pos.Prefix, p.Pos.Suffix, p.Neg.Prefix, p.Neg.Suffix}
	for i, l := range lists {
		lists[i] = l[:cap(l)]
	}
	return lists
}

func cloned(lists [][]api.Token) [][]api.Token {
	clones := make([][]api.Token, len(lists))
	for i, l := range lists {
		clones[i] = slices.Clone(l)
	}
	return clones
}

func sameLists(a, b [][]api.Token) bool {
	return slices.EqualFunc(a, b, func(x, y []api.Token) bool { return slices.Equal(x, y) })
}

// scribble writes over lists and the room behind them.
func scribble(lists ...[]api.Token) {
	for _, l := range lists {
		l = l[:cap(l)]
		for i := range l {
			l[i] = api.Token{Kind: 77, Many: 77, Text: "scribble"}
		}
	}
}

// Neither a pattern's lists nor the room behind them change, whatever is done with the answers.
func TestPatternsStay(t *testing.T) {
	r := source()
	for range 5000 {
		p := roomyPattern(somePattern(r))
		was := cloned(wholeLists(p))
		for _, n := range []int{-1, 0, 1, 2} {
			before, after, _ := sign.Affixes(p, n)
			scribble(before, after)
			_ = append(before[:0], text("more"))
			_ = append(after[:0], text("more"))
		}
		if !sameLists(wholeLists(p), was) {
			t.Fatalf("%s has become %s", short(was), short(p))
		}
	}
}

// What is answered stays when the pattern is written over, and when another answer is; its two lists share nothing, though the pattern's may.
func TestAffixesAreTheirOwners(t *testing.T) {
	r := source()
	for range 5000 {
		p := roomyPattern(somePattern(r))
		if r.IntN(2) == 0 {
			p.Pos.Suffix, p.Neg.Prefix, p.Neg.Suffix = p.Pos.Prefix, p.Pos.Prefix, p.Pos.Prefix
		}
		n := r.IntN(3) - 1
		want := affixesByWords(p, n)
		want.before, want.after = slices.Clone(want.before), slices.Clone(want.after)
		first, second, third := affixesOf(sign.Affixes(p, n)), affixesOf(sign.Affixes(p, n)), affixesOf(sign.Affixes(p, n))
		scribble(first.before)
		scribble(second.after)
		scribble(wholeLists(p)...)
		if !slices.Equal(first.after, want.after) || !slices.Equal(second.before, want.before) || !third.same(want) {
			t.Fatalf("%d: %s, %s and %s, not %s", n, short(first), short(second), short(third), short(want))
		}
	}
}

func TestTokensStayAndPiecesAreTheirOwners(t *testing.T) {
	r := source()
	for range 5000 {
		l := roomy(someTokens(r, 6))
		was := slices.Clone(l[:cap(l)])
		s, coin := someSymbols(r)
		first, second := sign.Pieces(l, s, coin), sign.Pieces(l, s, coin)
		first = first[:cap(first)]
		for i := range first {
			first[i] = api.Piece{Text: "scribble", Field: 77}
		}
		if !slices.Equal(l[:cap(l)], was) {
			t.Fatalf("%s has become %s", short(was), short(l[:cap(l)]))
		}
		scribble(l)
		if want := piecesByWords(was[:len(l)], s, coin); !slices.Equal(second, want) {
			t.Fatalf("Pieces(%s, ..): %s, not %s", short(was[:len(l)]), short(second), short(want))
		}
	}
}

// A nil list and an empty one are the same, and one without tokens but with room is, too.
func TestNilListsAreEmptyOnes(t *testing.T) {
	for _, empty := range [][]api.Token{nil, {}, roomy(nil), tokens(minus, minus)[:0]} {
		for _, hasNeg := range []bool{false, true} {
			p := api.Pattern{Pos: half(empty, empty), HasNeg: hasNeg, Neg: half(empty, empty)}
			expectAffixes(t, p, 0, told{})
			expectAffixes(t, p, 1, told{before: tokens(plus)})
			want := told{}
			if !hasNeg {
				want.before = tokens(minus)
			}
			expectAffixes(t, p, -1, want)
		}
		expectPieces(t, empty, symbols(), "$")
	}
}

// What comes before a call changes nothing in it: errors, other patterns, the same lists with other tokens in them.
func TestCallsKeepNothing(t *testing.T) {
	r := source()
	p := roomyPattern(twoPattern(half(tokens(text("a"), coin(1)), tokens(percent)), half(tokens(minus, text("b")), tokens(minus))))
	for range 5000 {
		sign.Affixes(p, oneOf(r, -2, 2, 77))
		sign.Affixes(somePattern(r), r.IntN(3)-1)
		s, coin := someSymbols(r)
		sign.Pieces(someTokens(r, 5), s, coin)
		lists := wholeLists(p)
		l := lists[r.IntN(len(lists))]
		l[r.IntN(len(l))] = oneOf(r, minus, plus, text("c"), percent)
		p.HasNeg = !p.HasNeg
		expectAffixesWords(t, p, r.IntN(3)-1)
		expectPiecesWords(t, p.Neg.Prefix, s, coin)
	}
}

func TestCallsSideBySide(t *testing.T) {
	var wait sync.WaitGroup
	p := roomyPattern(twoPattern(half(tokens(text("a"), coin(1)), tokens(percent)), half(tokens(minus, text("b")), tokens(minus))))
	for i := range 8 {
		wait.Go(func() {
			for n := range 300 {
				expectAffixesWords(t, p, n%4-1)
				expectPiecesWords(t, p.Neg.Prefix, symbols(), repeat("$", n%3))
				expectOfWords(t, api.Shown{Neg: n%2 == 0, Int: repeat("0", i)}, n%6)
			}
		})
	}
	wait.Wait()
}
