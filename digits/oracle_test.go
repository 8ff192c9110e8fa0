package digits_test

import (
	"fmt"
	"math/big"
	"regexp"
	"slices"
	"strings"
	"testing"

	"quipu/api"
	"quipu/digits"
)

// The chapter's words, by another way than the program's: what the program is held against.

func repeat(s string, n int) string { return strings.Repeat(s, n) }

func plain(whole, fraction string) api.Shown { return api.Shown{Int: whole, Frac: fraction} }

// latin: the symbols of the chapter's examples, and the others, each its own.
func latin() api.Symbols {
	s := api.Symbols{Decimal: ".", Group: ",", Minus: "-", Plus: "+", Percent: "%", Permille: "‰", Exponent: "E", Infinity: "∞", NaN: "NaN", Approximately: "~{0}", Range: "{0}–{1}"}
	for i := range s.Digits {
		s.Digits[i] = string(rune('0' + i))
	}
	return s
}

// arabic: all but the point differ from latin's.
func arabic() api.Symbols {
	s := api.Symbols{Decimal: "٫", Group: "٬", Minus: "\u061c-", Plus: "\u061c+", Percent: "٪\u061c", Permille: "؉", Exponent: "أس", Infinity: "لا نهاية", NaN: "ليس رقم", Approximately: "≈{0}", Range: "{0}-{1}"}
	for i := range s.Digits {
		s.Digits[i] = string(rune(0x660 + i))
	}
	return s
}

// A sizing is what Pieces is told of groups, and of the point.
type sizing struct {
	first, further, least int
	always                bool
}

func sizes(first, further, least int) sizing { return sizing{first, further, least, false} }

func pieces(x api.Shown, s api.Symbols, g sizing) []api.Piece {
	return digits.Pieces(x, s, g.first, g.further, g.least, g.always)
}

var digitsAlone = regexp.MustCompile(`^[0-9]*$`)

func mayByWords(x api.Shown) bool {
	if x.Exp < -2001 || x.Exp > 2001 || x.Class < 0 || x.Class > 2 {
		return false
	}
	all := x.Int + x.Frac
	if x.Class > 0 {
		return all == "" && !(x.Class == 2 && x.Neg)
	}
	return all != "" && digitsAlone.MatchString(all) && len(x.Int) <= 4096 && len(x.Frac) <= 4096
}

// groupsByWords goes from the last digit to the first one.
func groupsByWords(whole string, g sizing) []string {
	if g.further <= 0 {
		g.further = g.first
	}
	if g.least < 1 {
		g.least = 1
	}
	bound := new(big.Int).Add(big.NewInt(int64(g.first)), big.NewInt(int64(g.least)))
	if g.first <= 0 || big.NewInt(int64(len(whole))).Cmp(bound) < 0 {
		return []string{whole}
	}
	groups, ahead := []string{whole[len(whole)-g.first:]}, whole[:len(whole)-g.first]
	for len(ahead) > g.further {
		groups = append(groups, ahead[len(ahead)-g.further:])
		ahead = ahead[:len(ahead)-g.further]
	}
	groups = append(groups, ahead)
	slices.Reverse(groups)
	return groups
}

func writtenByWords(number string, s api.Symbols) string {
	var pairs []string
	for i, text := range s.Digits {
		pairs = append(pairs, fmt.Sprint(i), text)
	}
	return strings.NewReplacer(pairs...).Replace(number)
}

// filled leaves out what is empty.
func filled(l ...api.Piece) []api.Piece {
	return slices.DeleteFunc(l, func(p api.Piece) bool { return p.Text == "" })
}

func piecesByWords(x api.Shown, s api.Symbols, g sizing) []api.Piece {
	switch {
	case !mayByWords(x):
		return nil
	case x.Class == 1:
		return filled(api.Piece{Text: s.Infinity, Field: 2})
	case x.Class == 2:
		return filled(api.Piece{Text: s.NaN, Field: 2})
	}
	var l []api.Piece
	for _, group := range groupsByWords(x.Int, g) {
		l = append(l, api.Piece{Text: s.Group, Field: 3}, api.Piece{Text: writtenByWords(group, s), Field: 2})
	}
	l = l[1:]
	if len(x.Frac) > 0 || g.always {
		l = append(l, api.Piece{Text: s.Decimal, Field: 4})
	}
	return filled(append(l, api.Piece{Text: writtenByWords(x.Frac, s), Field: 5})...)
}

func exponentByWords(exp, least int, plus bool, s api.Symbols) []api.Piece {
	n := big.NewInt(int64(exp))
	number := new(big.Int).Abs(n).String()
	for noughts := 0; len(number) < least && noughts < 99; noughts++ {
		number = "0" + number
	}
	mark := ""
	if n.Sign() < 0 {
		mark = s.Minus
	} else if plus {
		mark = s.Plus
	}
	return filled(api.Piece{Text: s.Exponent, Field: 6}, api.Piece{Text: mark, Field: 7}, api.Piece{Text: writtenByWords(number, s), Field: 8})
}

// joined: pieces with a bar between, and a letter for each field.
func joined(l []api.Piece) string {
	var texts []string
	fields := " "
	for _, p := range l {
		texts = append(texts, p.Text)
		fields += string("LSIGDFXYZ???????????"[p.Field])
	}
	return strings.Join(texts, "|") + fields
}

func short(x any) string { return fmt.Sprintf("%.300s", fmt.Sprintf("%+v", x)) }

// expectPieces holds the program against want, and against the words.
func expectPieces(t *testing.T, x api.Shown, s api.Symbols, g sizing, want ...api.Piece) {
	t.Helper()
	expectByWords(t, x, s, g)
	if got := pieces(x, s, g); !slices.Equal(got, want) {
		t.Errorf("%s by %+v: %s, not %s", short(x), g, short(joined(got)), short(joined(want)))
	}
}

// expectRow is expectPieces of what joined tells.
func expectRow(t *testing.T, x api.Shown, s api.Symbols, g sizing, want string) {
	t.Helper()
	expectByWords(t, x, s, g)
	if got := joined(pieces(x, s, g)); got != want {
		t.Errorf("%s by %+v: %s, not %s", short(x), g, short(got), short(want))
	}
}

func expectByWords(t *testing.T, x api.Shown, s api.Symbols, g sizing) {
	t.Helper()
	want := piecesByWords(x, s, g)
	if got := pieces(x, s, g); !slices.Equal(got, want) {
		t.Errorf("%s by %+v: %s, by the words %s", short(x), g, short(joined(got)), short(joined(want)))
	}
}

func expectExponent(t *testing.T, exp, least int, plus bool, s api.Symbols, want string) {
	t.Helper()
	expectExponentByWords(t, exp, least, plus, s)
	if got := joined(digits.Exponent(exp, least, plus, s)); got != want {
		t.Errorf("Exponent(%d, %d, %t): %s, not %s", exp, least, plus, got, want)
	}
}

func expectExponentByWords(t *testing.T, exp, least int, plus bool, s api.Symbols) {
	t.Helper()
	want := exponentByWords(exp, least, plus, s)
	if got := digits.Exponent(exp, least, plus, s); !slices.Equal(got, want) {
		t.Errorf("Exponent(%d, %d, %t): %s, by the words %s", exp, least, plus, short(joined(got)), short(joined(want)))
	}
}
