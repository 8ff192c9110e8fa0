package notation_test

import (
	"fmt"
	"testing"

	"quipu/api"
	"quipu/notation"
)

// P18.3

type patternRow struct {
	rows          []api.Compact
	exp, category int
	want          string
}

func expectPatterns(t *testing.T, rows ...patternRow) {
	t.Helper()
	for _, x := range rows {
		text, ok := notation.Row(x.rows, x.exp, x.category)
		expect(t, fmt.Sprintf("Row(%v, %d, %d)", x.rows, x.exp, x.category), fmt.Sprintf("%s %t", text, ok), x.want)
		expectRow(t, x.rows, x.exp, x.category)
	}
}

func TestRowExamples(t *testing.T) {
	expectPatterns(t, patternRow{chapter(), 4, api.One, "00K true"}, patternRow{chapter(), 7, api.One, " false"}, patternRow{chapter(), 7, api.Other, " false"})
}

func TestRow(t *testing.T) {
	rows := []api.Compact{
		{Exp: 3, Category: api.One, Pattern: "0 mil"}, {Exp: 3, Category: api.Many, Pattern: "0 de mil"}, other(3, "0 miles"), other(3, "another"), {Exp: 3, Category: api.One, Pattern: "too late"},
		other(4, ""), {Exp: 4, Category: api.Few, Pattern: "no pattern '"}, {Exp: 5, Category: api.Two, Pattern: "alone"}, {Exp: 6, Category: api.Zero, Pattern: ""}, other(6, "six"), {Exp: 9, Category: 9, Pattern: "nine"}, other(-1, "below"),
	}
	expectPatterns(t,
		patternRow{rows, 3, api.One, "0 mil true"}, patternRow{rows, 3, api.Many, "0 de mil true"}, patternRow{rows, 3, api.Other, "0 miles true"}, patternRow{rows, 3, api.Zero, "0 miles true"}, patternRow{rows, 3, 6, "0 miles true"}, patternRow{rows, 3, -1, "0 miles true"},
		patternRow{rows, 4, api.Other, " true"}, patternRow{rows, 4, api.One, " true"}, patternRow{rows, 4, api.Few, "no pattern ' true"}, patternRow{rows, 5, api.Two, "alone true"}, patternRow{rows, 5, api.Other, " false"}, patternRow{rows, 5, api.One, " false"},
		patternRow{rows, 6, api.Zero, " true"}, patternRow{rows, 6, api.One, "six true"}, patternRow{rows, 9, 9, "nine true"}, patternRow{rows, 9, api.Other, " false"}, patternRow{rows, -1, api.One, "below true"}, patternRow{rows, 0, api.Other, " false"}, patternRow{rows, 7, api.Other, " false"},
		patternRow{nil, 3, api.Other, " false"}, patternRow{[]api.Compact{}, 0, 0, " false"},
	)
}

func TestRowOfEdges(t *testing.T) {
	for _, exp := range edges() {
		for _, category := range edges() {
			rows := []api.Compact{{Exp: exp, Category: category, Pattern: "it"}, other(exp, "of other")}
			for _, e := range edges() {
				for _, c := range edges() {
					expectRow(t, rows[:1], e, c)
					expectRow(t, rows, e, c)
				}
			}
		}
	}
}

// All lists of up to three rows of two Exps and three categories.
func TestRowOfAllLists(t *testing.T) {
	var kinds []api.Compact
	for exp := 3; exp <= 4; exp++ {
		for _, c := range []int{api.One, api.Few, api.Other} {
			kinds = append(kinds, api.Compact{Exp: exp, Category: c})
		}
	}
	lists := [][]api.Compact{nil}
	for size := range 3 {
		for _, l := range lists {
			if len(l) != size {
				continue
			}
			for _, k := range kinds {
				k.Pattern = fmt.Sprint(size)
				lists = append(lists, append(l[:size:size], k))
			}
		}
	}
	for _, l := range lists {
		for exp := 2; exp <= 5; exp++ {
			for c := range api.Categories {
				expectRow(t, l, exp, c)
			}
		}
	}
}

func TestRowOfSome(t *testing.T) {
	r := source()
	for range 50000 {
		expectRow(t, someRows(r), r.IntN(20)-1, r.IntN(9)-1)
	}
}
