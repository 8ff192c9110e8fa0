package fields_test

import (
	"fmt"
	"testing"

	"quipu/api"
)

// P17.2

func TestBuildExamples(t *testing.T) {
	expectBuild(t, pieces("S-|I1|G,|I234|D.|F5"), "-1,234.5: S0-1 I1-6 G2-3 D6-7 F7-8")
	expectBuild(t, pieces("G,|I1|L |I2"), ",1 2: G0-1 I1-2 I3-4")
	expectBuild(t, nil, ":")
	expectBuild(t, []api.Piece{{Field: 18}}, refused)
	expectBuild(t, []api.Piece{{Text: "\xff"}}, refused)
}

func TestBuildOfEmptyPieces(t *testing.T) {
	expectBuild(t, []api.Piece{}, ":")
	expectBuild(t, pieces("L|I|G|D|N"), ":")
	expectBuild(t, pieces("S|I1|F"), "1: I0-1")
	expectBuild(t, pieces("La|S|Lb"), "ab:")
}

// A Literal has no span; an Integer has one; each other field its piece's own.
func TestBuildOfEachField(t *testing.T) {
	expectBuild(t, pieces("Lab"), "ab:")
	expectBuild(t, pieces("Iab"), "ab: I0-2")
	for field := 1; field <= 17; field++ {
		p := api.Piece{Text: "ab", Field: field}
		expectBuild(t, []api.Piece{p}, fmt.Sprintf("ab: %s0-2", letter(field)))
		expectBuild(t, []api.Piece{{Text: "é"}, p, {Text: "é"}}, fmt.Sprintf("éabé: %s2-4", letter(field)))
	}
	for field := range 18 {
		expectBuildByWords(t, []api.Piece{{Text: "ab", Field: field}, {Text: "cd", Field: field}})
		for other := range 18 {
			expectBuildByWords(t, []api.Piece{{Text: "1", Field: 2}, {Text: "a", Field: field}, {Text: "b", Field: other}, {Text: "2", Field: 2}})
		}
	}
}

func TestBuildOfFieldsThatAreNone(t *testing.T) {
	for _, field := range fieldEdges() {
		if field >= 0 && field <= 17 {
			continue
		}
		for _, text := range []string{"", "a"} {
			p := api.Piece{Text: text, Field: field}
			expectBuild(t, []api.Piece{p}, refused)
			expectBuild(t, []api.Piece{{Text: "1", Field: 2}, p}, refused)
			expectBuild(t, []api.Piece{p, {Text: "1", Field: 2}}, refused)
		}
	}
}

func TestBuildOfTextsThatAreNotUTF8(t *testing.T) {
	for _, text := range broken() {
		for field := range 18 {
			p := api.Piece{Text: text, Field: field}
			expectBuild(t, []api.Piece{p}, refused)
			expectBuild(t, []api.Piece{{Text: "1", Field: 2}, p, {Text: "1", Field: 2}}, refused)
		}
	}
}

// Each piece's text is UTF-8 by itself, not both together alone.
func TestBuildOfRunesInHalves(t *testing.T) {
	for _, text := range []string{"é", "€", "\U0001F600"} {
		for at := 1; at < len(text); at++ {
			for _, field := range []int{api.Literal, api.Integer, api.Group, api.Sign} {
				expectBuild(t, []api.Piece{{Text: text[:at], Field: field}, {Text: text[at:], Field: field}}, refused)
				expectBuild(t, []api.Piece{{Text: text[:at], Field: field}, {Field: field}, {Text: text[at:], Field: field}}, refused)
			}
		}
		expectBuild(t, []api.Piece{{Text: text}, {Text: text}}, text+text+":")
	}
}

func TestBuildOfRowsOfDigits(t *testing.T) {
	expectBuild(t, pieces("I1|I2|I3"), "123: I0-3")
	expectBuild(t, pieces("I1|G,|I2|G,|I3"), "1,2,3: I0-5 G1-2 G3-4")
	expectBuild(t, pieces("I1|G,|G;|I3"), "1,;3: I0-4 G1-2 G2-3")
	expectBuild(t, pieces("I12|Gé|I34"), "12é34: I0-6 G2-4")
}

// A group at a row's end is outside of the Integer's span.
func TestBuildOfGroupsAtTheEnds(t *testing.T) {
	expectBuild(t, pieces("G,"), ",: G0-1")
	expectBuild(t, pieces("G,|G;"), ",;: G0-1 G1-2")
	expectBuild(t, pieces("G,|I1"), ",1: G0-1 I1-2")
	expectBuild(t, pieces("I1|G,"), "1,: I0-1 G1-2")
	expectBuild(t, pieces("G,|G;|I1|G,|G;"), ",;1,;: G0-1 G1-2 I2-3 G3-4 G4-5")
	expectBuild(t, pieces("G,|I1|G,|I2|G,"), ",1,2,: G0-1 I1-4 G2-3 G4-5")
	expectBuild(t, pieces("I1|G,|Lx|G,|I2"), "1,x,2: I0-1 G1-2 G3-4 I4-5")
}

// Empty pieces, whatever their field, neither end a row nor are a part of one.
func TestBuildOfRowsWithEmptyPieces(t *testing.T) {
	for field := range 18 {
		none := api.Piece{Field: field}
		one, group, two := api.Piece{Text: "1", Field: 2}, api.Piece{Text: ",", Field: 3}, api.Piece{Text: "2", Field: 2}
		expectBuild(t, []api.Piece{one, none, two}, "12: I0-2")
		expectBuild(t, []api.Piece{none, one, none, none, group, none, two, none}, "1,2: I0-3 G1-2")
		expectBuild(t, []api.Piece{none, group, none, one, none, group, none}, ",1,: G0-1 I1-2 G2-3")
		expectBuild(t, []api.Piece{group, none, {Text: ".", Field: 4}, none, one}, ",.1: G0-1 D1-2 I2-3")
	}
}

func TestBuildOfRowsApart(t *testing.T) {
	for field := range 18 {
		if field == api.Integer || field == api.Group {
			continue
		}
		want := "1a2: I0-1 " + letter(field) + "1-2 I2-3"
		if field == api.Literal {
			want = "1a2: I0-1 I2-3"
		}
		expectBuild(t, []api.Piece{{Text: "1", Field: 2}, {Text: "a", Field: field}, {Text: "2", Field: 2}}, want)
	}
	expectBuild(t, pieces("I1|G,|I2|R-|I3|G,|I4"), "1,2-3,4: I0-3 G1-2 R3-4 I4-7 G5-6")
}

func TestBuildAllRows(t *testing.T) {
	kinds := pieces("I1|G,|L |D.|I|L")
	var more func(l []api.Piece)
	more = func(l []api.Piece) {
		expectBuildByWords(t, l)
		for _, p := range kinds {
			if len(l) < 6 {
				more(append(l, p))
			}
		}
	}
	more(nil)
}

func TestBuildSome(t *testing.T) {
	r := source()
	for range 40000 {
		l := somePieces(r)
		if len(l) > 0 && r.IntN(5) == 0 {
			i := r.IntN(len(l))
			l[i] = oneOf(r, api.Piece{Text: oneOf(r, broken()...), Field: r.IntN(18)}, api.Piece{Text: someText(r, 2), Field: oneOf(r, fieldEdges()...)})
		}
		expectBuildByWords(t, l)
	}
}
