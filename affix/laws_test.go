package affix_test

import (
	"slices"
	"testing"

	"quipu/affix"
	"quipu/api"
)

// P13.5

// expectBack: Parse of Print's text is the tokens, and the text is that of the words.
func expectBack(t *testing.T, l []api.Token) {
	t.Helper()
	s, err := affix.Print(l)
	if want, _ := printByWords(l); err != api.OK || s != want {
		t.Fatalf("Print(%s): %q, %d, not %q", short(l), s, err, want)
	}
	if got, err := affix.Parse(s); err != api.OK || !slices.Equal(got, l) {
		t.Fatalf("Parse(%q), the text of %s: %s, %d", s, short(l), short(got), err)
	}
}

func TestParseOfPrintOfShortTexts(t *testing.T) {
	for s := range rowsOf(6, "'", "a", "-", "0", "\u00a4") {
		if s != "" {
			expectBack(t, tokens(text(s)))
			expectBack(t, tokens(minus, text(s), coin(2)))
		}
	}
	for s := range rowsOf(3, "'", "x", "€", "\u2030", "#", "+") {
		for other := range rowsOf(2, "'", "x", "\u00a4", ";") {
			if s != "" && other != "" {
				expectBack(t, tokens(text(s), coin(1), text(other)))
				expectBack(t, tokens(text(s), percent, text(other), plus))
			}
		}
	}
}

func TestParseOfPrint(t *testing.T) {
	r := source()
	taken := 0
	for range 20000 {
		l := someTokens(r, r.IntN(66))
		want := checkByWords(l)
		if want == api.OK {
			taken++
			expectBack(t, l)
		} else if s, err := affix.Print(l); err != want || s != "" {
			t.Fatalf("Print(%s): %q, %d, not %d", short(l), s, err, want)
		}
	}
	if taken < 3000 {
		t.Error("too few may be:", taken)
	}
}

// Print of what Parse takes may be another text, but it tells the same; and it stays as it is from then on.
func TestPrintOfParse(t *testing.T) {
	taken, others := 0, 0
	expect := func(s string) {
		l, err := affix.Parse(s)
		if err != api.OK {
			return
		}
		taken++
		expectCheck(t, l, api.OK)
		expectBack(t, l)
		if printed, _ := affix.Print(l); printed != s {
			others++
		}
	}
	for s := range rowsOf(7, "'", "a", "0", "\u00a4", "-") {
		expect(s)
	}
	r := source()
	for range 20000 {
		s := ""
		for range r.IntN(20) {
			s += oneOf(r, "'"+someText(r, r.IntN(5))+"'", "''", "a", "'a'", "€", "-", "'b''", "%", "¤")
		}
		expect(s)
	}
	if taken < 5000 || others < 1000 {
		t.Error("too few of a kind:", taken, others)
	}
}
