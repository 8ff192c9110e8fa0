package sign_test

import (
	"testing"

	"quipu/api"
)

// P19.2

func TestAffixesExamples(t *testing.T) {
	expectText(t, "0", -1, "-", "")
	expectText(t, "0;(0)", -1, "(", ")")
	expectText(t, "0;(0)", 1, "+", "")
	expectText(t, "0;0-", 1, "", "+")
	expectAffixes(t, onePattern(nil, nil), 2, told{err: api.ErrSignForm})
}

func TestAffixesOfPatternsWithOneHalf(t *testing.T) {
	for _, x := range []struct{ text, before, after string }{
		{"0", "", ""}, {"a0", "a", ""}, {"0b", "", "b"}, {"a0b", "a", "b"}, {"¤#,##0.00", "¤", ""}, {"#,##0.00 ¤¤", "", " ¤¤"}, {"0%", "", "%"}, {"0‰", "", "‰"}, {"'-'0'+'", "'-'", "'+'"},
		{"-0", "-", ""}, {"0-", "", "-"}, {"+0+", "+", "+"}, {"-a-0-b-", "-a-", "-b-"}, {"$*x#,##0", "$", ""},
	} {
		expectText(t, x.text, 0, x.before, x.after)
		expectText(t, x.text, -1, "-"+x.before, x.after)
		expectText(t, x.text, 1, "+"+x.before, x.after)
	}
}

// By two halves, the one for what is below zero has the minus, or tells it without one.
func TestAffixesOfPatternsWithTwoHalves(t *testing.T) {
	for _, x := range []struct{ text, zero, minus, plus [2]string }{
		{[2]string{"0;(0)"}, [2]string{}, [2]string{"(", ")"}, [2]string{"+"}},
		{[2]string{"a0b;(0)"}, [2]string{"a", "b"}, [2]string{"(", ")"}, [2]string{"+a", "b"}},
		{[2]string{"a0b;c0"}, [2]string{"a", "b"}, [2]string{"c"}, [2]string{"+a", "b"}},
		{[2]string{"a0b;-0"}, [2]string{"a", "b"}, [2]string{"-"}, [2]string{"+"}},
		{[2]string{"a0b;0-"}, [2]string{"a", "b"}, [2]string{"", "-"}, [2]string{"", "+"}},
		{[2]string{"a0b;-c0d"}, [2]string{"a", "b"}, [2]string{"-c", "d"}, [2]string{"+c", "d"}},
		{[2]string{"a0b;c0-d"}, [2]string{"a", "b"}, [2]string{"c", "-d"}, [2]string{"c", "+d"}},
		{[2]string{"a0b;-c0d-"}, [2]string{"a", "b"}, [2]string{"-c", "d-"}, [2]string{"+c", "d+"}},
		{[2]string{"0;--c-0-d--"}, [2]string{}, [2]string{"--c-", "-d--"}, [2]string{"++c+", "+d++"}},
		{[2]string{"¤0;(¤-0%)"}, [2]string{"¤"}, [2]string{"(¤-", "%)"}, [2]string{"(¤+", "%)"}},
		{[2]string{"¤¤0‰;¤¤0‰-"}, [2]string{"¤¤", "‰"}, [2]string{"¤¤", "‰-"}, [2]string{"¤¤", "‰+"}},
		{[2]string{"0;'-'0"}, [2]string{}, [2]string{"'-'"}, [2]string{"+"}},
		{[2]string{"0;+0"}, [2]string{}, [2]string{"+"}, [2]string{"+"}},
		{[2]string{"0;+0-"}, [2]string{}, [2]string{"+", "-"}, [2]string{"+", "+"}},
		{[2]string{"-0;c0"}, [2]string{"-"}, [2]string{"c"}, [2]string{"+-"}},
		{[2]string{"-0-;c0-"}, [2]string{"-", "-"}, [2]string{"c", "-"}, [2]string{"c", "+"}},
	} {
		expectText(t, x.text[0], 0, x.zero[0], x.zero[1])
		expectText(t, x.text[0], -1, x.minus[0], x.minus[1])
		expectText(t, x.text[0], 1, x.plus[0], x.plus[1])
	}
}

// Where HasNeg is false, what Neg has counts for nothing; where it is true, empty affixes are those of Neg.
func TestAffixesHasNeg(t *testing.T) {
	pos, neg := half(tokens(text("a")), tokens(percent)), half(tokens(minus, text("b")), tokens(minus))
	expectAffixes(t, api.Pattern{Pos: pos, Neg: neg}, -1, told{before: tokens(minus, text("a")), after: tokens(percent)})
	expectAffixes(t, api.Pattern{Pos: pos, Neg: neg}, 0, told{before: tokens(text("a")), after: tokens(percent)})
	expectAffixes(t, api.Pattern{Pos: pos, Neg: neg}, 1, told{before: tokens(plus, text("a")), after: tokens(percent)})
	expectAffixes(t, twoPattern(pos, neg), -1, told{before: tokens(minus, text("b")), after: tokens(minus)})
	expectAffixes(t, twoPattern(pos, neg), 0, told{before: tokens(text("a")), after: tokens(percent)})
	expectAffixes(t, twoPattern(pos, neg), 1, told{before: tokens(plus, text("b")), after: tokens(plus)})
	expectAffixes(t, twoPattern(pos, half(nil, nil)), -1, told{})
	expectAffixes(t, twoPattern(pos, half(nil, nil)), 1, told{before: tokens(plus, text("a")), after: tokens(percent)})
	expectAffixes(t, twoPattern(half(nil, nil), half(nil, nil)), 0, told{})
	expectAffixes(t, twoPattern(half(nil, nil), half(nil, nil)), 1, told{before: tokens(plus)})
	expectAffixes(t, api.Pattern{}, -1, told{before: tokens(minus)})
	expectAffixes(t, api.Pattern{}, 0, told{})
	expectAffixes(t, api.Pattern{}, 1, told{before: tokens(plus)})
}

// No pattern is checked: tokens, sizes and fills that may not be, halves that are unlike. A token whose Kind is TokMinus is one, whatever else it says, and what takes its place is a plain TokPlus.
func TestAffixesOfPatternsThatMayNotBe(t *testing.T) {
	odd := tokens(text(""), text("\xff"), text(repeat("x", 65)), api.Token{Kind: 9, Many: -4, Text: "odd"}, coin(0), coin(4), coin(1), api.Token{Kind: -1}, api.Token{Kind: api.TokPlus, Many: 2, Text: "p"})
	sub := api.Sub{Prefix: odd, Suffix: odd[3:], IntMin: -1, FracMin: 5, FracMax: 2, Primary: -3, Secondary: 7, ExpMin: -2, ExpPlus: true, Pad: "ab", PadAt: 9, Width: -1}
	p := twoPattern(sub, half(odd[1:], odd[2:]))
	expectAffixes(t, p, 0, told{before: odd, after: odd[3:]})
	expectAffixes(t, p, -1, told{before: odd[1:], after: odd[2:]})
	expectAffixes(t, p, 1, told{before: append(tokens(plus), odd...), after: odd[3:]})
	p.HasNeg = false
	expectAffixes(t, p, -1, told{before: append(tokens(minus), odd...), after: odd[3:]})

	loud := api.Token{Kind: api.TokMinus, Many: 3, Text: "loud"}
	q := twoPattern(sub, half(tokens(loud, text("b")), tokens(coin(9), loud)))
	expectAffixes(t, q, -1, told{before: tokens(loud, text("b")), after: tokens(coin(9), loud)})
	expectAffixes(t, q, 1, told{before: tokens(plus, text("b")), after: tokens(coin(9), plus)})
}

func TestAffixesOfManyTokens(t *testing.T) {
	var many, up []api.Token
	for range 1000 {
		many, up = append(many, minus, text("a"), minus), append(up, plus, text("a"), plus)
	}
	expectAffixes(t, twoPattern(half(many, nil), half(nil, many)), 1, told{after: up})
	expectAffixes(t, twoPattern(half(many, nil), half(many, nil)), 1, told{before: up})
	expectAffixes(t, onePattern(many, many), -1, told{before: append(tokens(minus), many...), after: many})
}

// Beside the error nothing is told, of any pattern.
func TestAffixesOfSignsThatAreNone(t *testing.T) {
	patterns := []api.Pattern{{}, onePattern(tokens(minus), tokens(text("a"))), twoPattern(half(tokens(text("a")), nil), half(tokens(minus), tokens(minus)))}
	for _, n := range edges() {
		for _, p := range patterns {
			if n < -1 || n > 1 {
				expectAffixes(t, p, n, told{err: api.ErrSignForm})
			}
			expectAffixesWords(t, p, n)
		}
	}
}

// Each place of a minus, in halves of up to two tokens an affix.
func TestAffixesOfAllSmallHalves(t *testing.T) {
	lists := [][]api.Token{nil}
	for _, x := range tokens(minus, plus, text("a"), coin(1), percent) {
		lists = append(lists, tokens(x))
		for _, y := range tokens(minus, plus, text("a"), coin(1), permille) {
			lists = append(lists, tokens(x, y))
		}
	}
	for _, prefix := range lists {
		for _, suffix := range lists {
			for n := -1; n <= 1; n++ {
				expectAffixesWords(t, twoPattern(half(tokens(text("p")), tokens(text("s"))), half(prefix, suffix)), n)
				expectAffixesWords(t, api.Pattern{Pos: half(prefix, suffix), Neg: half(suffix, prefix)}, n)
				expectAffixesWords(t, twoPattern(half(prefix, suffix), half(tokens(text("n")), tokens(text("s")))), n)
			}
		}
	}
}

func TestAffixesSome(t *testing.T) {
	r := source()
	for range 30000 {
		expectAffixesWords(t, somePattern(r), oneOf(r, -1, 0, 1, -1, 1, oneOf(r, edges()...)))
	}
}
