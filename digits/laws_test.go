package digits_test

import (
	"math/rand/v2"
	"slices"
	"testing"

	"quipu/api"
	"quipu/digits"
)

// P16.3

// textsOf: those of the pieces in a field, in order.
func textsOf(l []api.Piece, field int) []string {
	var texts []string
	for _, p := range l {
		if p.Field == field {
			texts = append(texts, p.Text)
		}
	}
	return texts
}

func chained(texts []string) string {
	all := ""
	for _, text := range texts {
		all += text
	}
	return all
}

func someFinite(r *rand.Rand, most int) api.Shown {
	for {
		if x := someShown(r, most); x.Class == api.Finite {
			return x
		}
	}
}

func TestNoDigitIsLostNoneIsTwice(t *testing.T) {
	r := source()
	for i := range 30000 {
		most := 15
		if i%100 == 0 {
			most = 4096
		}
		x, g := someFinite(r, most), someSizing(r)
		l := pieces(x, latin(), g)
		whole, fraction := textsOf(l, api.Integer), textsOf(l, api.Fraction)
		if chained(whole) != x.Int || chained(fraction) != x.Frac || len(fraction) > 1 {
			t.Fatalf("%s by %+v: %s", short(x), g, short(joined(l)))
		}
	}
}

func TestGroupsHaveTheirSize(t *testing.T) {
	r := source()
	met := 0
	for range 30000 {
		x, first, further, least := someFinite(r, 24), 1+r.IntN(6), r.IntN(6), r.IntN(5)
		size := further
		if further == 0 {
			size = first
		}
		l := pieces(x, latin(), sizes(first, further, least))
		groups := textsOf(l, api.Integer)
		if len(groups) < 2 {
			continue
		}
		met++
		foremost, last := len(groups[0]), len(groups[len(groups)-1])
		fits := foremost >= 1 && foremost <= size && last == first && len(textsOf(l, api.Group)) == len(groups)-1
		for _, group := range groups[1 : len(groups)-1] {
			fits = fits && len(group) == size
		}
		if len(groups) == 2 {
			fits = fits && foremost >= least
		}
		if !fits || len(x.Int) < first+max(1, least) {
			t.Fatalf("%s by %d %d %d: %s", short(x), first, further, least, joined(l))
		}
	}
	if met < 10000 {
		t.Error("too few have groups:", met)
	}
}

func TestWithoutGroupsOnePieceAtMost(t *testing.T) {
	r := source()
	for range 10000 {
		x := someFinite(r, 24)
		first, least := r.IntN(40), r.IntN(40)
		if len(x.Int) >= first+max(1, least) {
			first = -first
		}
		if l := pieces(x, latin(), sizes(first, r.IntN(5), least)); len(textsOf(l, api.Integer)) > 1 || len(textsOf(l, api.Group)) != 0 {
			t.Fatalf("%s by %d and %d: %s", short(x), first, least, joined(l))
		}
	}
}

// Between two Integer pieces there is one Group; none is first or last, and what is behind the point is never cut.
func TestOrderOfPieces(t *testing.T) {
	r := source()
	for range 20000 {
		x, g := someFinite(r, 15), someSizing(r)
		fields := []int{}
		for i := range textsOf(pieces(x, latin(), g), api.Integer) {
			if i > 0 {
				fields = append(fields, api.Group)
			}
			fields = append(fields, api.Integer)
		}
		if x.Frac != "" || g.always {
			fields = append(fields, api.Decimal)
		}
		if x.Frac != "" {
			fields = append(fields, api.Fraction)
		}
		var got []int
		for _, p := range pieces(x, latin(), g) {
			got = append(got, p.Field)
		}
		if !slices.Equal(got, fields) {
			t.Fatalf("%s by %+v: %v, not %v", short(x), g, got, fields)
		}
	}
}

// inArabic: the same pieces, their texts written anew.
func inArabic(l []api.Piece) []api.Piece {
	s, other := latin(), arabic()
	var turned []api.Piece
	for _, p := range l {
		switch p.Text {
		case s.Group:
			p.Text = other.Group
		case s.Decimal:
			p.Text = other.Decimal
		case s.Minus:
			p.Text = other.Minus
		case s.Plus:
			p.Text = other.Plus
		case s.Exponent:
			p.Text = other.Exponent
		case s.Infinity:
			p.Text = other.Infinity
		case s.NaN:
			p.Text = other.NaN
		default:
			p.Text = writtenByWords(p.Text, other)
		}
		turned = append(turned, p)
	}
	return turned
}

func TestOtherSymbolsChangeTheTextsAlone(t *testing.T) {
	r := source()
	for range 20000 {
		x, g := someShown(r, 15), someSizing(r)
		if got, want := pieces(x, arabic(), g), inArabic(pieces(x, latin(), g)); !slices.Equal(got, want) {
			t.Fatalf("%s by %+v: %s, not %s", short(x), g, joined(got), joined(want))
		}
		exp, least, plus := r.IntN(4003)-2001, r.IntN(12), r.IntN(2) == 0
		if got, want := digits.Exponent(exp, least, plus, arabic()), inArabic(digits.Exponent(exp, least, plus, latin())); !slices.Equal(got, want) {
			t.Fatalf("Exponent(%d, %d, %t): %s, not %s", exp, least, plus, joined(got), joined(want))
		}
	}
}

// The sign and the exponent of what is shown stand elsewhere.
func TestSignAndExponentMakeNoDifference(t *testing.T) {
	r := source()
	for range 10000 {
		x, g := someFinite(r, 15), someSizing(r)
		other := x
		other.Neg, other.Exp, other.Compact = !x.Neg, r.IntN(4003)-2001, !x.Compact
		if got, want := pieces(other, latin(), g), pieces(x, latin(), g); !slices.Equal(got, want) {
			t.Fatalf("%s by %+v: %s, not %s", short(other), g, joined(got), joined(want))
		}
	}
}

func TestNoPieceIsEmpty(t *testing.T) {
	r := source()
	for range 20000 {
		l := append(pieces(someShown(r, 12), someSymbols(r), someSizing(r)), digits.Exponent(r.IntN(200)-100, r.IntN(5), r.IntN(2) == 0, someSymbols(r))...)
		if slices.ContainsFunc(l, func(p api.Piece) bool { return p.Text == "" }) {
			t.Fatalf("an empty piece: %s", joined(l))
		}
	}
}
