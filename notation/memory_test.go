package notation_test

import (
	"slices"
	"sync"
	"testing"

	"quipu/api"
	"quipu/notation"
)

// R3, R4, R5

// Neither the rows nor the room behind them are changed; what is answered are values, which stay when the rows are written over.
func TestRowsStayAndAreNotKept(t *testing.T) {
	r := source()
	for range 5000 {
		x, p := someDec(r, 8, 12), somePrecision(r, 5)
		room := append(slices.Clone(someRows(r)), other(3, "behind"), other(4, "0K"))
		was := slices.Clone(room)
		rows := room[:len(room)-2]
		exp, category := r.IntN(16), r.IntN(7)
		s, row, err := notation.Short(x, p, rows)
		text, ok := notation.Row(rows, exp, category)
		if !slices.Equal(room, was) {
			t.Fatalf("%v has become %v", was, room)
		}
		shown := shortByWords(x, p, rows)
		wanted, there := rowByWords(rows, exp, category)
		for i := range room {
			room[i] = api.Compact{Exp: 77, Category: 77, Pattern: "scribble"}
		}
		expect(t, "Short", toldShort(s, row, err), shown)
		if text != wanted || ok != there {
			t.Fatalf("Row: %q %t, not %q %t", text, ok, wanted, there)
		}
	}
}

// A nil list and an empty one are the same, and one without rows but with room is, too.
func TestNilRowsAreEmptyOnes(t *testing.T) {
	room := usual()[:0]
	for _, x := range numbers() {
		for _, p := range precisions() {
			s, row, err := notation.Short(x, p, nil)
			expect(t, "empty", toldShort(notation.Short(x, p, []api.Compact{})), toldShort(s, row, err))
			expect(t, "with room", toldShort(notation.Short(x, p, room)), toldShort(s, row, err))
		}
	}
	if _, ok := notation.Row(room, 3, api.Other); ok {
		t.Error("a row in the room behind the list")
	}
}

// What comes before a call changes nothing in it: other rows, errors, the same list with other rows in it.
func TestCallsKeepNothing(t *testing.T) {
	r := source()
	rows := usual()
	for range 3000 {
		x, p := someDec(r, 8, 12), somePrecision(r, 5)
		notation.Short(of("999999"), frac(0, 0), someRows(r))
		notation.Science(of("999.9"), frac(0, 0), oneOf(r, 1, 2, 3))
		notation.Short(api.Dec{Digits: "0"}, p, rows)
		i := r.IntN(len(rows))
		rows[i].Pattern = oneOf(r, moulds()...).text
		expectShort(t, x, p, rows)
		expectScience(t, x, p, 3)
		expectRow(t, rows, 3+i, api.One)
	}
}

func TestCallsSideBySide(t *testing.T) {
	var wait sync.WaitGroup
	rows := usual()
	for i := range 8 {
		wait.Go(func() {
			for n := 1; n < 300; n++ {
				x := api.Dec{Digits: "996", Exp: n % 13}
				expectShort(t, x, by(i, frac(0, 0)), rows)
				expectScience(t, x, by(i, sig(1, 2)), 1+2*(n%2))
				expectRow(t, rows, n%17, i%6)
			}
		})
	}
	wait.Wait()
}
