package pattern_test

import (
	"testing"

	"quipu/api"
	"quipu/pattern"
)

// P14.4

// expectBack: Parse of Print's text is the pattern, and the text is that of the words.
func expectBack(t *testing.T, p api.Pattern) {
	t.Helper()
	s, err := pattern.Print(p)
	if want, _ := printByWords(p); err != api.OK || s != want {
		t.Fatalf("Print(%s): %q, %d, not %q", short(p), s, err, want)
	}
	if got, err := pattern.Parse(s); err != api.OK || !same(got, p) {
		t.Fatalf("Parse(%q), the text of %s: %s, %d", s, short(p), short(got), err)
	}
}

func TestParseOfPrint(t *testing.T) {
	r := source()
	taken, padded, both := 0, [4]int{}, 0
	for range 60000 {
		p := somePattern(r)
		want := checkByWords(p)
		if want != api.OK {
			if s, err := pattern.Print(p); err != want || s != "" {
				t.Fatalf("Print(%s): %q, %d, not %d", short(p), s, err, want)
			}
			continue
		}
		expectBack(t, p)
		taken++
		if p.Pos.Pad != "" {
			padded[p.Pos.PadAt]++
		}
		if p.HasNeg {
			both++
		}
	}
	if taken < 10000 || both < 1000 || min(padded[0], padded[1], padded[2], padded[3]) < 500 {
		t.Error("too few of a kind:", taken, both, padded)
	}
}

// All halves of small numbers, in each place of a filler.
func TestParseOfPrintOfSmallHalves(t *testing.T) {
	e, sign := tokens(text("E")), tokens(plus, text("0"))
	for _, prefix := range [][]api.Token{nil, e, sign} {
		for _, suffix := range [][]api.Token{nil, e, sign, tokens(text("E"), plus), tokens(text("'"))} {
			for n := range 3 * 3 * 3 * 3 * 3 * 4 {
				next := func(most int) int {
					rest := n % most
					n /= most
					return rest
				}
				h := api.Sub{Prefix: prefix, Suffix: suffix, IntMin: next(3), FracMax: next(3)}
				h.FracMin = h.FracMax - h.FracMax/2
				h.Primary, h.Secondary, h.ExpMin = next(3), next(3), next(3)
				h.ExpPlus = h.ExpMin == 1
				if at := next(4); mayByWords(h) {
					expectBack(t, one(h))
					h.Pad, h.PadAt, h.Width = "0", at, 20
				}
				if mayByWords(h) {
					expectBack(t, two(h, h))
				}
			}
		}
	}
}

// Print of what Parse takes may be another text, but it tells the same; and it stays as it is from then on.
func TestPrintOfParse(t *testing.T) {
	taken, others := 0, 0
	expect := func(s string) {
		p, err := pattern.Parse(s)
		if err != api.OK {
			return
		}
		taken++
		if err := pattern.Check(p); err != api.OK {
			t.Fatalf("Check of what Parse(%q) tells: %d", s, err)
		}
		expectBack(t, p)
		if printed, _ := pattern.Print(p); printed != s {
			others++
		}
	}
	for s := range rowsOf(6, "#", "0", ",", "*", "'", ";", "E") {
		expect(s)
	}
	r := source()
	for range 40000 {
		expect(somePatternText(r))
	}
	if taken < 10000 || others < 5000 {
		t.Error("too few of a kind:", taken, others)
	}
}
