package notation_test

import (
	"fmt"
	"strings"
	"testing"

	"quipu/api"
	"quipu/dec"
	"quipu/notation"
	"quipu/width"
)

// The chapter's words, by another way than the program's: what the program is held against.

func repeat(s string, n int) string { return strings.Repeat(s, n) }

// of answers the Dec of a text that is one.
func of(text string) api.Dec {
	d, err := dec.Parse(text)
	if err != api.OK {
		panic(text)
	}
	return d
}

func all(texts ...string) []api.Dec {
	var list []api.Dec
	for _, text := range texts {
		list = append(list, of(text))
	}
	return list
}

// Precisions of each kind, by HalfEven, with a whole digit at least; what changes one answers another one.

func everything() api.Precision { return api.Precision{Mode: api.HalfEven, IntMin: 1} }

func frac(low, high int) api.Precision {
	return api.Precision{Kind: api.PrecFrac, MinFrac: low, MaxFrac: high, Mode: api.HalfEven, IntMin: 1}
}

func sig(low, high int) api.Precision {
	return api.Precision{Kind: api.PrecSig, MinSig: low, MaxSig: high, Mode: api.HalfEven, IntMin: 1}
}

func both(lowFrac, highFrac, lowSig, highSig int) api.Precision {
	return api.Precision{Kind: api.PrecBoth, MinFrac: lowFrac, MaxFrac: highFrac, MinSig: lowSig, MaxSig: highSig, Mode: api.HalfEven, IntMin: 1}
}

func step(text string, low int) api.Precision {
	return api.Precision{Kind: api.PrecStep, Step: of(text), MinFrac: low, Mode: api.HalfEven, IntMin: 1}
}

func strict(p api.Precision) api.Precision {
	p.Strict = true
	return p
}

func hidden(p api.Precision) api.Precision {
	p.Hide = true
	return p
}

func by(mode int, p api.Precision) api.Precision {
	p.Mode = mode
	return p
}

func ints(low, high int, p api.Precision) api.Precision {
	p.IntMin, p.IntMax = low, high
	return p
}

func word(err api.Errno) string {
	switch err {
	case api.ErrNotationForm:
		return "notation"
	case api.ErrDecForm:
		return "form"
	case api.ErrDecRange:
		return "range"
	case api.ErrWidthForm:
		return "width"
	}
	return fmt.Sprint("error ", int(err))
}

// told answers a Shown, all of it, or an error's word: digits with the point between, and E with an exponent; C, if it is compact.
func told(s api.Shown, err api.Errno) string {
	if err != api.OK {
		if s != (api.Shown{}) {
			return "a Shown beside an error"
		}
		return word(err)
	}
	letter := "E"
	if s.Compact {
		letter = "C"
	}
	text := fmt.Sprintf("%s.%s%s%d", s.Int, s.Frac, letter, s.Exp)
	if s.Class != api.Finite {
		text = [3]string{"", "inf", "nan"}[s.Class] + text
	}
	if s.Neg {
		text = "-" + text
	}
	return text
}

// toldShort has the row, too.
func toldShort(s api.Shown, row int, err api.Errno) string {
	if err != api.OK && row != 0 {
		return "a row beside an error"
	}
	text := told(s, err)
	if err == api.OK {
		text += fmt.Sprint(" ", row)
	}
	return text
}

func short(text string) string {
	if len(text) > 80 {
		return fmt.Sprintf("%s..%s (%d bytes)", text[:40], text[len(text)-30:], len(text))
	}
	return text
}

func named(x api.Dec) string { return short(fmt.Sprintf("%v", x)) }

func expect(t *testing.T, what, got, want string) {
	t.Helper()
	if got != want {
		t.Errorf("%.500s: %s, not %s", what, short(got), short(want))
	}
}

func magnitudeByWords(x api.Dec) int { return len(x.Digits) + x.Exp - 1 }

// shownBy: x by a power, shown.
func shownBy(x api.Dec, power int, p api.Precision) (api.Shown, api.Errno) {
	if x.Exp -= power; !dec.May(x) {
		return api.Shown{}, api.ErrDecRange
	}
	return width.Show(x, p)
}

// shownMagnitude is that of the number that is shown, and whether it is not zero.
func shownMagnitude(s api.Shown) (int, bool) {
	digits := strings.TrimLeft(s.Int+s.Frac, "0")
	return len(digits) - len(s.Frac) - 1, digits != ""
}

func scienceByWords(x api.Dec, p api.Precision, by int) string {
	if by != 3 && by != 1 {
		return "notation"
	}
	y, err := width.Show(x, p)
	if err != api.OK {
		return word(err)
	}
	if p.IntMin >= 2 || p.IntMax >= 1 {
		return "notation"
	}
	if x.Class != api.Finite || x.Digits == "" {
		return told(y, err)
	}
	e := 3000
	for e > magnitudeByWords(x) {
		e -= by
	}
	if y, err = shownBy(x, e, p); err == api.OK && len(y.Int) > by {
		e += by
		y, err = shownBy(x, e, p)
	}
	if err == api.OK {
		y.Exp = e
	}
	return told(y, err)
}

func expectScience(t *testing.T, x api.Dec, p api.Precision, by int) {
	t.Helper()
	expect(t, fmt.Sprintf("Science(%s, %v, %d)", named(x), p, by), told(notation.Science(x, p, by)), scienceByWords(x, p, by))
}

// A mould is a pattern's text, and how many noughts its first half has; 0, if it has none, or no token, or if it is no pattern.
type mould struct {
	text    string
	noughts int
}

func moulds() []mould {
	return []mould{
		{"0K", 1}, {"00K", 2}, {"000K", 3}, {"0000K", 4}, {"00000K", 5}, {"000000K", 6},
		{"K0", 1}, {"K00", 2}, {"K000", 3}, {"a0b", 1}, {"a00b", 2}, {"0 K", 1}, {" 0", 1}, {"0' '", 1}, {"'0'0", 1}, {"0'00'", 1}, {"''0", 1}, {"0''", 1},
		{"¤0", 1}, {"0¤¤", 1}, {"00%", 2}, {"‰0", 1}, {"-0", 1}, {"0+", 1}, {"0тыс", 1}, {"0万", 1},
		{"0", 0}, {"00", 0}, {"000", 0}, {"", 0}, {"K", 0}, {"#K", 0}, {"K#", 0}, {"###K", 0}, {"#", 0},
		{"#0K", 1}, {"##00K", 2}, {"#,##0K", 1}, {"#,#00K", 2}, {"0,000K", 4}, {"#,##0", 0}, {"#,##K", 0},
		{"0.0K", 1}, {"00.##K", 2}, {"0.0", 0}, {"#.0K", 0}, {"0.K", 0}, {"0E0K", 1}, {"0E", 1}, {"0E0", 0}, {"K0E+00", 1},
		{"0K;-0K", 1}, {"00K;0", 2}, {"0K;000K", 1}, {"0;0K", 0}, {"0;-0", 0}, {"#;0K", 0}, {"0K;", 0}, {";0K", 0}, {"0K;K", 0},
		{"*x0K", 1}, {"K*x00", 2}, {"0*xK", 1}, {"0K*x", 1}, {"*x0", 0}, {"0*x", 0}, {"*0", 0}, {"*x*y0K", 0},
		{"0'", 0}, {"'K0", 0}, {"0'K", 0}, {"¤¤¤0", 1}, {"¤¤¤¤0", 0}, {"0#K", 0}, {"K0K0", 0}, {"\xff0", 0}, {"0\xe2\x82", 0}, {"0,K", 0},
		{repeat("0", 14) + "K", 14}, {repeat("0", 15) + "K", 15}, {"K" + repeat("0", 16), 16}, {repeat("0", 32) + "K", 32}, {"K" + repeat("0", 33), 0},
		{"0" + repeat("K", 64), 1}, {"0" + repeat("K", 65), 0}, {repeat("#", 126) + "0K", 1}, {repeat("#", 127) + "0K", 0},
	}
}

// noughtsByWords: of some noughts and a letter, or of a mould's text. Others are not handed in.
func noughtsByWords(text string) int {
	if rest := strings.TrimLeft(text, "0"); len(rest) == 1 && rest >= "A" && rest <= "Z" {
		return len(text) - 1
	}
	for _, m := range moulds() {
		if m.text == text {
			return m.noughts
		}
	}
	panic(text)
}

// tableByWords: the noughts of the Exps that are in the table.
func tableByWords(rows []api.Compact) map[int]int {
	texts := map[int]string{}
	for i := range rows {
		r := rows[len(rows)-1-i]
		if r.Category == 5 {
			texts[r.Exp] = r.Pattern
		}
	}
	table := map[int]int{}
	for exp := 3; exp <= 14; exp++ {
		if text, ok := texts[exp]; ok {
			if n := noughtsByWords(text); n >= 1 && n <= exp+1 {
				table[exp] = n
			}
		}
	}
	return table
}

// expByWords: the Exp for a magnitude, and its power.
func expByWords(table map[int]int, magnitude int) (int, int) {
	best := 0
	for exp := range table {
		if exp <= magnitude {
			best = max(best, exp)
		}
	}
	if best == 0 {
		return 0, 0
	}
	return best, best - table[best] + 1
}

func shortByWords(x api.Dec, p api.Precision, rows []api.Compact) string {
	y, err := width.Show(x, p)
	if err != api.OK {
		return word(err)
	}
	if x.Class != api.Finite || x.Digits == "" {
		return toldShort(y, 0, err)
	}
	table := tableByWords(rows)
	exp, power := expByWords(table, magnitudeByWords(x))
	y, err = shownBy(x, power, p)
	if err != api.OK {
		return word(err)
	}
	if m, ok := shownMagnitude(y); ok && m+power > magnitudeByWords(x) {
		exp, power = expByWords(table, m+power)
		y, err = shownBy(x, power, p)
	}
	if err != api.OK {
		return word(err)
	}
	y.Exp, y.Compact = power, exp > 0
	return toldShort(y, exp, err)
}

func expectShort(t *testing.T, x api.Dec, p api.Precision, rows []api.Compact) {
	t.Helper()
	expect(t, fmt.Sprintf("Short(%s, %v, %v)", named(x), p, rows), toldShort(notation.Short(x, p, rows)), shortByWords(x, p, rows))
}

// rowByWords goes from the last row to the first one.
func rowByWords(rows []api.Compact, exp, category int) (string, bool) {
	text, found := "", 0
	for i := range rows {
		r := rows[len(rows)-1-i]
		switch {
		case r.Exp == exp && r.Category == category:
			text, found = r.Pattern, 2
		case r.Exp == exp && r.Category == api.Other && found < 2:
			text, found = r.Pattern, 1
		}
	}
	return text, found > 0
}

func expectRow(t *testing.T, rows []api.Compact, exp, category int) {
	t.Helper()
	text, ok := notation.Row(rows, exp, category)
	wanted, there := rowByWords(rows, exp, category)
	expect(t, fmt.Sprintf("Row(%v, %d, %d)", rows, exp, category), fmt.Sprintf("%q %t", text, ok), fmt.Sprintf("%q %t", wanted, there))
}
