package notation_test

import (
	"fmt"
	"testing"

	"quipu/api"
	"quipu/notation"
	"quipu/pattern"
)

// P18.2: which Exps are in the table, and their noughts.

// What the tests say of their patterns is what pattern tells of them.
func TestMoulds(t *testing.T) {
	for _, m := range moulds() {
		p, err := pattern.Parse(m.text)
		n := p.Pos.IntMin
		if err != api.OK || len(p.Pos.Prefix) == 0 && len(p.Pos.Suffix) == 0 {
			n = 0
		}
		if n != m.noughts {
			t.Errorf("%s: %d noughts, error %d, not %d", short(m.text), n, err, m.noughts)
		}
	}
}

// expectNoughts asks for a row of an Exp by a number of just that magnitude.
func expectNoughts(t *testing.T, rows []api.Compact, exp, noughts int) {
	t.Helper()
	s, row, err := notation.Short(api.Dec{Digits: "1", Exp: exp}, everything(), rows)
	want := fmt.Sprintf("1%s.E0 0", repeat("0", exp))
	if noughts > 0 {
		want = fmt.Sprintf("1%s.C%d %d", repeat("0", noughts-1), exp-noughts+1, exp)
	}
	expect(t, fmt.Sprintf("%d by %v", exp, rows), toldShort(s, row, err), want)
}

// Each pattern at each Exp: as many noughts as the Exp and one are the most.
func TestNoughtsOfPatterns(t *testing.T) {
	for exp := 0; exp <= 20; exp++ {
		for _, m := range moulds() {
			noughts := m.noughts
			if exp < 3 || exp > 14 || noughts > exp+1 {
				noughts = 0
			}
			expectNoughts(t, []api.Compact{other(exp, m.text)}, exp, noughts)
		}
		for n := 1; n <= 20; n++ {
			noughts := n
			if exp < 3 || exp > 14 || n > exp+1 {
				noughts = 0
			}
			expectNoughts(t, []api.Compact{other(exp, repeat("0", n)+"K")}, exp, noughts)
			expectNoughts(t, []api.Compact{other(exp, "K"+repeat("0", n))}, exp, noughts)
			expectNoughts(t, []api.Compact{other(exp, repeat("0", n))}, exp, 0)
		}
	}
}

// The first row of an Exp and Other is asked, whatever stands ahead of it, or behind it.
func TestFirstRowOfOtherCounts(t *testing.T) {
	for exp := 3; exp <= 14; exp++ {
		for c := -1; c <= 7; c++ {
			row := api.Compact{Exp: exp, Category: c, Pattern: "00K"}
			noughts := 0
			if c == api.Other {
				noughts = 2
			}
			expectNoughts(t, []api.Compact{row}, exp, noughts)
			if c == api.Other {
				continue
			}
			expectNoughts(t, []api.Compact{row, other(exp, "000K")}, exp, 3)
			expectNoughts(t, []api.Compact{other(exp, "000K"), row}, exp, 3)
			expectNoughts(t, []api.Compact{row, other(exp, "000")}, exp, 0)
		}
		for _, m := range moulds() {
			first := m.noughts
			if first > exp+1 {
				first = 0
			}
			expectNoughts(t, []api.Compact{other(exp, m.text), other(exp, "00K")}, exp, first)
			expectNoughts(t, []api.Compact{other(exp, "00K"), other(exp, m.text)}, exp, 2)
			expectNoughts(t, []api.Compact{other(exp+20, "0K"), {Exp: exp, Category: api.Few, Pattern: "0K"}, other(exp, m.text), other(exp, "00K"), other(exp, "0K")}, exp, first)
		}
	}
}

// An Exp that isn't in the table is passed over: a lesser one takes its place.
func TestLesserExpTakesItsPlace(t *testing.T) {
	for exp := 4; exp <= 14; exp++ {
		for _, text := range []string{"", "0", "#K", "0'", "0;0K", repeat("0", exp+2) + "K"} {
			s, row, err := notation.Short(api.Dec{Digits: "1", Exp: exp}, everything(), []api.Compact{other(3, "0K"), other(exp, text)})
			expect(t, short(text), toldShort(s, row, err), fmt.Sprintf("1%s.C3 3", repeat("0", exp-3)))
		}
	}
}

// Of all ways to have, or not to have, rows of three Exps each number's row is the greatest one that is not above it.
func TestEveryTableOfFew(t *testing.T) {
	texts := []string{"", "0K", "00K", "0", "0000K"}
	for a := range texts {
		for b := range texts {
			for c := range texts {
				rows := []api.Compact{other(5, texts[b]), other(3, texts[a]), other(6, texts[c])}
				for m := range 9 {
					for _, digits := range []string{"1", "5", "996", "999996"} {
						x := api.Dec{Digits: digits, Exp: m + 1 - len(digits)}
						expectShort(t, x, frac(0, 0), rows)
						expectShort(t, x, sig(1, 2), rows)
					}
				}
			}
		}
	}
}
