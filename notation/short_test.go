package notation_test

import (
	"fmt"
	"testing"

	"quipu/api"
	"quipu/notation"
)

// P18.2

type shortRow struct {
	text string
	p    api.Precision
	rows []api.Compact
	want string
}

func expectShortRows(t *testing.T, rows ...shortRow) {
	t.Helper()
	for _, x := range rows {
		what := fmt.Sprintf("Short(%s, %v, %v)", short(x.text), x.p, x.rows)
		expect(t, what, toldShort(notation.Short(of(x.text), x.p, x.rows)), x.want)
		expect(t, what+" by words", shortByWords(of(x.text), x.p, x.rows), x.want)
	}
}

// chapter: the rows of the chapter's examples.
func chapter() []api.Compact {
	return []api.Compact{other(3, "0K"), other(4, "00K"), other(5, "000K"), other(6, "0M")}
}

func TestShortExamples(t *testing.T) {
	whole := frac(0, 0)
	expectShortRows(t,
		shortRow{"1234", whole, chapter(), "1.C3 3"}, shortRow{"12345", whole, chapter(), "12.C3 4"}, shortRow{"999999", whole, chapter(), "1.C6 6"}, shortRow{"12", whole, chapter(), "12.E0 0"},
		shortRow{"999999", whole, []api.Compact{other(3, "0K"), other(6, "0M")}, "1.C6 6"},
	)
}

// Below the first row, at each row, between rows, above the last one.
func TestShortMagnitudes(t *testing.T) {
	p := sig(1, 2)
	gaps := []api.Compact{other(4, "0W"), other(8, "0Y"), other(12, "0Z")}
	for text, want := range map[string]string{
		"0.01": "0.01E0 0", "1": "1.E0 0", "999": "1000.E0 0", "1500": "1500.E0 0", "9999": "1.C4 4", "9949": "9900.E0 0", "10000": "1.C4 4", "15000": "1.5C4 4", "150000": "15.C4 4", "1500000": "150.C4 4", "15000000": "1500.C4 4", "99000000": "9900.C4 4",
		"99999999": "1.C8 8", "100000000": "1.C8 8", "150000000": "1.5C8 8", "15e10": "1500.C8 8", "999e9": "1.C12 12", "1e12": "1.C12 12", "15e13": "150.C12 12", "15e18": "15000000.C12 12", "-15000": "-1.5C4 4", "-99999999": "-1.C8 8",
	} {
		expectShortRows(t, shortRow{text, p, gaps, want})
	}
	for exp := 3; exp <= 14; exp++ {
		text := fmt.Sprintf("15e%d", exp-1)
		power := exp - exp%3
		expectShortRows(t, shortRow{text, everything(), usual(), fmt.Sprintf("%sC%d %d", []string{"1.5", "15.", "150."}[exp%3], power, exp)})
	}
	expectShortRows(t, shortRow{"15e14", everything(), usual(), "1500.C12 14"}, shortRow{"15e300", everything(), usual(), "15" + repeat("0", 288) + ".C12 14"}, shortRow{"999", everything(), usual(), "999.E0 0"}, shortRow{"100", everything(), usual(), "100.E0 0"})
}

func TestShortCarries(t *testing.T) {
	whole, down := frac(0, 0), by(api.Down, frac(0, 0))
	gap := []api.Compact{other(3, "0K"), other(5, "0L"), other(6, "000M")}
	expectShortRows(t,
		shortRow{"9996", whole, chapter(), "10.C3 4"}, shortRow{"99996", whole, chapter(), "100.C3 5"}, shortRow{"999996", whole, chapter(), "1.C6 6"}, shortRow{"999.6", whole, chapter(), "1.C3 3"}, shortRow{"-999.6", whole, chapter(), "-1.C3 3"},
		shortRow{"9996", down, chapter(), "9.C3 3"}, shortRow{"999996", down, chapter(), "999.C3 5"}, shortRow{"999.6", down, chapter(), "999.E0 0"}, shortRow{"99.6", whole, chapter(), "100.E0 0"}, shortRow{"0.96", whole, chapter(), "1.E0 0"},
		shortRow{"999500", whole, chapter(), "1.C6 6"}, shortRow{"999499", whole, chapter(), "999.C3 5"}, shortRow{"999500", by(api.HalfDown, whole), chapter(), "999.C3 5"}, shortRow{"9999999", whole, chapter(), "10.C6 6"},
		shortRow{"9996", whole, gap, "10.C3 3"}, shortRow{"99996", whole, gap, "1.C5 5"}, shortRow{"999996", whole, gap, "100.C4 6"}, shortRow{"999996", sig(2, 2), gap, "100.C4 6"}, shortRow{"999996", everything(), gap, "9.99996C5 5"},
		shortRow{"999999", sig(1, 3), chapter(), "1.C6 6"}, shortRow{"999999", both(0, 1, 1, 3), chapter(), "1.C6 6"}, shortRow{"999949", frac(0, 1), chapter(), "999.9C3 5"}, shortRow{"999999", frac(1, 1), chapter(), "1.0C6 6"}, shortRow{"999999", hidden(frac(1, 1)), chapter(), "1.C6 6"},
	)
}

// A step carries as far as it is wide: but it is looked at once alone.
func TestShortCarriesBySteps(t *testing.T) {
	up := func(text string) api.Precision { return by(api.Up, step(text, 0)) }
	two := []api.Compact{other(3, "0K"), other(6, "0M")}
	expectShortRows(t,
		shortRow{"5", up("2000"), two, "2000.C3 3"}, shortRow{"5", up("4e9"), two, "4000000000.C6 6"}, shortRow{"5000", up("2000"), two, "2000.C6 6"}, shortRow{"-5", up("999"), two, "-999.E0 0"}, shortRow{"-5", up("1000"), two, "-1000.C3 3"},
		shortRow{"996000", step("5", 0), two, "995.C3 3"}, shortRow{"998000", step("5", 0), two, "0.C6 6"}, shortRow{"998000", up("0.7"), two, "998.2C3 3"}, shortRow{"999900", up("0.7"), two, "1.4C6 6"},
		shortRow{"5e-2001", up("4e2"), two, "400.E0 0"},
	)
}

// What rounding has carried from so far below 1 that the number by the row's power is none.
func TestShortRefusesByItsPower(t *testing.T) {
	far := by(api.Up, step("4e9", 0))
	expectShortRows(t, shortRow{"5e-2001", far, nil, "4000000000.E0 0"}, shortRow{"5e-2001", far, []api.Compact{other(6, "0M")}, "range"}, shortRow{"5e-1995", far, []api.Compact{other(6, "0M")}, "4000000000.C6 6"}, shortRow{"5e-1996", far, []api.Compact{other(6, "0M")}, "range"})
	// A thousand digits are a multiple of this step; those of a thousandth are rounded to one more.
	long := repeat("1", 1000) + "e-900"
	expectShortRows(t, shortRow{long, step("4e-904", 0), nil, repeat("1", 100) + "." + repeat("1", 900) + "E0 0"}, shortRow{long, step("4e-904", 0), []api.Compact{other(3, "0K")}, "range"})
}

// With an IntMax the digits that are shown are looked at, not the number that they stand for.
func TestShortOfLastDigits(t *testing.T) {
	p := frac(0, 0)
	two := []api.Compact{other(3, "0K"), other(6, "0M")}
	expectShortRows(t,
		shortRow{"999999", ints(1, 0, p), two, "1.C6 6"}, shortRow{"999999", ints(1, 4, p), two, "1.C6 6"}, shortRow{"999999", ints(1, 3, p), two, "000.C3 3"}, shortRow{"999999", ints(0, 1, p), two, "0.C3 3"}, shortRow{"999999", ints(7, 0, p), two, "0000001.C6 6"},
		shortRow{"123456", ints(0, 2, p), two, "23.C3 3"}, shortRow{"999996", ints(2, 2, step("7", 0)), two, "01.C3 3"}, shortRow{"999.9", ints(3, 3, p), two, "000.E0 0"}, shortRow{"999.9", ints(4, 4, p), two, "0001.C3 3"},
		shortRow{"12", ints(5, 0, p), two, "00012.E0 0"}, shortRow{"12000", ints(5, 0, p), two, "00012.C3 3"}, shortRow{"12000", ints(0, 0, p), two, "12.C3 3"},
	)
}

func TestShortRoundedToZero(t *testing.T) {
	two := []api.Compact{other(3, "0K"), other(6, "0M")}
	expectShortRows(t,
		shortRow{"0.4", frac(0, 0), two, "0.E0 0"}, shortRow{"-0.4", frac(2, 2), two, "-0.40E0 0"}, shortRow{"-0.004", frac(2, 2), two, "-0.00E0 0"}, shortRow{"1e-2001", frac(0, 0), two, "0.E0 0"},
		shortRow{"1234", step("5", 0), two, "0.C3 3"}, shortRow{"-1234567", step("5", 2), two, "-0.00C6 6"}, shortRow{"2500", step("5", 0), two, "0.C3 3"}, shortRow{"3000", step("5", 0), two, "5.C3 3"},
	)
}

func TestShortWithoutMagnitude(t *testing.T) {
	for _, rows := range tables() {
		for text, want := range map[string]string{"inf": "inf.E0 0", "-inf": "-inf.E0 0", "nan": "nan.E0 0", "0": "0.00E0 0", "-0": "-0.00E0 0"} {
			expectShortRows(t, shortRow{text, frac(2, 2), rows, want})
		}
		expectShortRows(t, shortRow{"0", ints(3, 0, everything()), rows, "000.E0 0"}, shortRow{"-0", hidden(frac(2, 2)), rows, "-0.E0 0"}, shortRow{"0", ints(0, 0, frac(2, 2)), rows, ".00E0 0"})
	}
}

// Noughts of an Exp and one make its power 0: it is compact all the same.
func TestShortByNoughtsOfAll(t *testing.T) {
	rows := []api.Compact{other(3, "0000K"), other(6, "000K")}
	expectShortRows(t, shortRow{"1234", everything(), rows, "1234.C0 3"}, shortRow{"999.9", frac(0, 0), rows, "1000.C0 3"}, shortRow{"123456", everything(), rows, "123456.C0 3"}, shortRow{"1234567", everything(), rows, "123.4567C4 6"}, shortRow{"999999.9", frac(0, 0), rows, "100.C4 6"})
	fourteen := []api.Compact{other(14, repeat("0", 15)+"K")}
	expectShortRows(t, shortRow{"1e14", everything(), fourteen, "100000000000000.C0 14"}, shortRow{"1e13", everything(), fourteen, "10000000000000.E0 0"}, shortRow{"1e14", everything(), []api.Compact{other(14, repeat("0", 14)+"K")}, "10000000000000.C1 14"})
}

func expectShortRefused(t *testing.T, x api.Dec, p api.Precision, rows []api.Compact, want string) {
	t.Helper()
	expect(t, fmt.Sprintf("Short(%s, %v, %v)", named(x), p, rows), toldShort(notation.Short(x, p, rows)), want)
}

func TestShortRefuses(t *testing.T) {
	for _, rows := range tables() {
		for _, x := range wrongDecs() {
			for _, p := range append(wrongPrecisions(), everything(), frac(0, 0), ints(2, 3, sig(1, 1))) {
				expectShortRefused(t, x, p, rows, "form")
			}
		}
		for _, x := range all("0", "-inf", "nan", "5", "-123456", "1e1999") {
			for _, p := range wrongPrecisions() {
				expectShortRefused(t, x, p, rows, "width")
			}
		}
		expectShortRefused(t, of("99e1998"), sig(1, 1), rows, "range")
		expectShortRefused(t, of("-99e1998"), by(api.Up, step("4e1999", 0)), rows, "range")
	}
}

func TestShortReckonedOtherwise(t *testing.T) {
	list := precisions()
	for n := 1; n < 1000; n += 3 {
		for exp := -2; exp <= 15; exp++ {
			x := of(fmt.Sprintf("%de%d", n, exp))
			x.Neg = n%2 == 0
			for i, rows := range tables() {
				expectShort(t, x, by((n+i)%api.Modes, list[(n+i+exp+2)%len(list)]), rows)
			}
		}
	}
}

func TestShortCarriesReckonedOtherwise(t *testing.T) {
	list := precisions()
	for size := 1; size <= 17; size++ {
		for exp := -3; exp <= 5; exp++ {
			for i, last := range []string{"", "4", "5", "51", "6"} {
				x := of(repeat("9", size) + last + fmt.Sprintf("e%d", exp))
				for j, rows := range tables() {
					for mode := range api.Modes {
						x.Neg = (i+j+mode)%2 == 0
						expectShort(t, x, by(mode, list[(size+3*i+5*j+exp+3)%len(list)]), rows)
					}
				}
			}
		}
	}
}

func TestShortOfSomeReckonedOtherwise(t *testing.T) {
	r := source()
	for range 40000 {
		expectShort(t, someDec(r, 8, 12), somePrecision(r, 5), someRows(r))
		expectShort(t, someDec(r, 8, 12), withInts(r, somePrecision(r, 5)), someRows(r))
	}
	for range 1000 {
		expectShort(t, someDec(r, 300, 1500), somePrecision(r, 99), someRows(r))
	}
}
