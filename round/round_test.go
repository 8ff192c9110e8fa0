package round_test

import (
	"fmt"
	"strings"
	"testing"

	"quipu/api"
	"quipu/dec"
	"quipu/round"
)

// byNumbers tells what all modes answer, in the order of their numbers: Ceiling, Floor, Down, Up, HalfEven, HalfDown, HalfUp, HalfOdd.
func byNumbers(call func(mode int) (api.Dec, api.Errno)) string {
	var list []string
	for mode := range api.Modes {
		list = append(list, told(call(mode)))
	}
	return strings.Join(list, " ")
}

// roundings: what numbers are as multiples of 1, by all modes: below, at and above the middle, behind even and odd ones, and those that are multiples; of both signs.
func roundings() [][2]string {
	return [][2]string{
		{"2.4", "3e0 2e0 2e0 3e0 2e0 2e0 2e0 2e0"}, {"2.5", "3e0 2e0 2e0 3e0 2e0 2e0 3e0 3e0"}, {"2.6", "3e0 2e0 2e0 3e0 3e0 3e0 3e0 3e0"},
		{"3.4", "4e0 3e0 3e0 4e0 3e0 3e0 3e0 3e0"}, {"3.5", "4e0 3e0 3e0 4e0 4e0 3e0 4e0 3e0"}, {"3.6", "4e0 3e0 3e0 4e0 4e0 4e0 4e0 4e0"},
		{"2.49999", "3e0 2e0 2e0 3e0 2e0 2e0 2e0 2e0"}, {"3.49999", "4e0 3e0 3e0 4e0 3e0 3e0 3e0 3e0"}, {"2.50001", "3e0 2e0 2e0 3e0 3e0 3e0 3e0 3e0"}, {"3.50001", "4e0 3e0 3e0 4e0 4e0 4e0 4e0 4e0"},
		{"-2.4", "-2e0 -3e0 -2e0 -3e0 -2e0 -2e0 -2e0 -2e0"}, {"-2.5", "-2e0 -3e0 -2e0 -3e0 -2e0 -2e0 -3e0 -3e0"}, {"-2.6", "-2e0 -3e0 -2e0 -3e0 -3e0 -3e0 -3e0 -3e0"},
		{"-3.4", "-3e0 -4e0 -3e0 -4e0 -3e0 -3e0 -3e0 -3e0"}, {"-3.5", "-3e0 -4e0 -3e0 -4e0 -4e0 -3e0 -4e0 -3e0"}, {"-3.6", "-3e0 -4e0 -3e0 -4e0 -4e0 -4e0 -4e0 -4e0"},
		{"2", "2e0 2e0 2e0 2e0 2e0 2e0 2e0 2e0"}, {"-2", "-2e0 -2e0 -2e0 -2e0 -2e0 -2e0 -2e0 -2e0"}, {"3", "3e0 3e0 3e0 3e0 3e0 3e0 3e0 3e0"}, {"-3", "-3e0 -3e0 -3e0 -3e0 -3e0 -3e0 -3e0 -3e0"},
		{"9.5", "1e1 9e0 9e0 1e1 1e1 9e0 1e1 9e0"}, {"-9.5", "-9e0 -1e1 -9e0 -1e1 -1e1 -9e0 -1e1 -9e0"},
	}
}

// zeros: numbers next to 0, from which a zero of their sign may come.
func zeros() [][2]string {
	return [][2]string{
		{"0.4", "1e0 0 0 1e0 0 0 0 0"}, {"0.5", "1e0 0 0 1e0 0 0 1e0 1e0"}, {"0.6", "1e0 0 0 1e0 1e0 1e0 1e0 1e0"}, {"0.00001", "1e0 0 0 1e0 0 0 0 0"},
		{"-0.4", "-0 -1e0 -0 -1e0 -0 -0 -0 -0"}, {"-0.5", "-0 -1e0 -0 -1e0 -0 -0 -1e0 -1e0"}, {"-0.6", "-0 -1e0 -0 -1e0 -1e0 -1e0 -1e0 -1e0"}, {"-0.00001", "-0 -1e0 -0 -1e0 -0 -0 -0 -0"},
		{"0", "0 0 0 0 0 0 0 0"}, {"-0", "-0 -0 -0 -0 -0 -0 -0 -0"},
	}
}

// times answers the text of a number, and those of a row, by a factor.
func times(t *testing.T, factor api.Dec, text, row string) (api.Dec, string) {
	t.Helper()
	by := func(text string) api.Dec {
		d, err := dec.Mul(of(text), factor)
		if err != api.OK {
			t.Fatal(text, factor, err)
		}
		return d
	}
	fields := strings.Fields(row)
	for i := range fields {
		fields[i] = told(by(fields[i]), api.OK)
	}
	return by(text), strings.Join(fields, " ")
}

// P6.2: by all modes, with units of every kind, near and far.

func TestAtByAllModes(t *testing.T) {
	for _, place := range []int{0, 1, -1, 5, -7, 1000, -1000, 1998, -1996} {
		for _, row := range append(roundings(), zeros()...) {
			d, want := times(t, api.Dec{Digits: "1", Exp: place}, row[0], row[1])
			got := byNumbers(func(mode int) (api.Dec, api.Errno) { return round.At(d, place, mode) })
			expect(t, fmt.Sprintf("%s at %d", row[0], place), got, want)
		}
	}
}

func TestDigitsByAllModes(t *testing.T) {
	for _, ahead := range []string{"", "8", "40", "99", repeat("7", 600)} {
		for _, exp := range []int{0, 3, -2, 900, -1200} {
			for _, row := range roundings() {
				d, want := times(t, api.Dec{Digits: "1", Exp: exp}, led(ahead, row[0]), ledRow(ahead, row[1]))
				got := byNumbers(func(mode int) (api.Dec, api.Errno) { return round.Digits(d, len(ahead)+1, mode) })
				expect(t, fmt.Sprintf("%s times 10^%d to %d digits", led(ahead, row[0]), exp, len(ahead)+1), got, want)
			}
		}
	}
}

// led puts digits ahead of those of a number.
func led(ahead, text string) string {
	rest, below := strings.CutPrefix(text, "-")
	if below {
		return "-" + ahead + rest
	}
	return ahead + text
}

// ledRow does so with a row's numbers of one digit; a ten carries into what is ahead.
func ledRow(ahead, row string) string {
	fields := strings.Fields(row)
	for i, text := range fields {
		sign, isTen := strings.CutSuffix(text, "1e1")
		switch {
		case isTen && ahead != "":
			fields[i] = sign + told(dec.Add(of(ahead+"0"), of("10")))
		case !isTen:
			fields[i] = led(ahead, text)
		}
	}
	return strings.Join(fields, " ")
}

func TestStepByAllModes(t *testing.T) {
	for _, step := range []string{"1", "2", "3", "7", "0.05", "0.25", "40", "12345678901234567890123", "1e1500", "3e-1500", "7e1998", "1e-1996", repeat("9", 32), repeat("3", 32) + "e-1500"} {
		for _, row := range append(roundings(), zeros()...) {
			if strings.HasSuffix(row[0], "9.5") && step == "7e1998" {
				continue // ten times that is none
			}
			d, want := times(t, of(step), row[0], row[1])
			got := byNumbers(func(mode int) (api.Dec, api.Errno) { return round.Step(d, of(step), mode) })
			expect(t, row[0]+" in steps of "+step, got, want)
		}
	}
}

// atRow, digitsRow and stepRow: a number, what it is rounded to by which mode, and the answer.
type atRow struct {
	text        string
	place, mode int
	want        string
}

type digitsRow struct {
	text    string
	n, mode int
	want    string
}

type stepRow struct {
	text, step string
	mode       int
	want       string
}

func expectAt(t *testing.T, rows ...atRow) {
	t.Helper()
	for _, x := range rows {
		expect(t, fmt.Sprintf("At of %v", x), told(round.At(of(x.text), x.place, x.mode)), x.want)
	}
}

func expectDigits(t *testing.T, rows ...digitsRow) {
	t.Helper()
	for _, x := range rows {
		expect(t, fmt.Sprintf("Digits of %v", x), told(round.Digits(of(x.text), x.n, x.mode)), x.want)
	}
}

func expectStep(t *testing.T, rows ...stepRow) {
	t.Helper()
	for _, x := range rows {
		expect(t, fmt.Sprintf("Step of %v", x), told(round.Step(of(x.text), of(x.step), x.mode)), x.want)
	}
}

func TestAtExamples(t *testing.T) {
	for text, want := range map[string]string{"25e-1": "3e0 2e0 2e0 3e0 2e0 2e0 3e0 3e0", "-25e-1": "-2e0 -3e0 -2e0 -3e0 -2e0 -2e0 -3e0 -3e0"} {
		expect(t, "At of "+text, byNumbers(func(mode int) (api.Dec, api.Errno) { return round.At(of(text), 0, mode) }), want)
	}
	expectAt(t, []atRow{
		{"-4e-1", 0, api.HalfUp, "-0"}, {"5e0", 1, api.HalfEven, "0"}, {"5e0", 5, api.Up, "1e5"}, {"5e0", -4000, api.Up, "5e0"},
		{"9e1999", 2000, api.Up, "range"}, {"1e0", 4001, api.Up, "place"}, {"1e0", 0, 8, "mode"},
	}...)
}

func TestDigitsExamples(t *testing.T) {
	expectDigits(t, []digitsRow{
		{"12345e0", 3, api.HalfEven, "123e2"}, {"9995e0", 3, api.HalfEven, "1e4"}, {"1e-9", 1, api.Down, "1e-9"}, {"1e0", 0, api.Up, "place"},
	}...)
}

func TestStepExamples(t *testing.T) {
	expectStep(t, []stepRow{
		{"12e-1", "5e-1", api.HalfEven, "1e0"}, {"125e-2", "5e-1", api.HalfEven, "1e0"}, {"-7e0", "3e0", api.Floor, "-9e0"}, {"1e0", "1e9", api.Up, "1e9"},
		{"1e0", "0", api.Up, "step"},
	}...)
}

// A carry through all nines leads to one more place.
func TestCarries(t *testing.T) {
	expectAt(t, []atRow{
		{"95", 1, api.HalfUp, "1e2"}, {"99.5", 0, api.HalfEven, "1e2"}, {"-99.5", 0, api.HalfEven, "-1e2"}, {"99.5", 0, api.HalfOdd, "99e0"}, {"99.1", 0, api.Up, "1e2"}, {"-99.1", 0, api.Floor, "-1e2"},
		{"0.999", -2, api.HalfDown, "1e0"}, {"1099", 1, api.Ceiling, "11e2"}, {repeat("9", 1000), 1, api.Up, "1e1000"}, {repeat("9", 1000), 500, api.HalfOdd, "1e1000"}, {repeat("9", 1000), 999, api.HalfEven, "1e1000"},
	}...)
	expectDigits(t, []digitsRow{
		{"9994", 3, api.HalfEven, "999e1"}, {"9996", 3, api.HalfEven, "1e4"}, {"9995", 3, api.HalfOdd, "999e1"}, {"-9995", 3, api.HalfUp, "-1e4"}, {"-9995", 3, api.HalfDown, "-999e1"}, {"9995", 3, api.HalfDown, "999e1"},
		{"99", 1, api.Up, "1e2"}, {"0.0099", 1, api.Ceiling, "1e-2"}, {"-0.0099", 1, api.Ceiling, "-9e-3"}, {"1995", 3, api.HalfEven, "2e3"}, {"1995", 3, api.HalfOdd, "199e1"},
		{repeat("9", 1000), 999, api.HalfEven, "1e1000"}, {repeat("9", 1000), 1, api.Up, "1e1000"}, {repeat("9", 1000) + "e-3000", 1, api.Up, "1e-2000"},
	}...)
	expectStep(t, []stepRow{{"9.99", "0.05", api.HalfEven, "1e1"}, {"99", "50", api.Up, "1e2"}, {"-99", "50", api.HalfDown, "-1e2"}, {repeat("9", 1000), "5e2", api.HalfUp, "1e1000"}}...)
}

// P6.1, P6.2: numbers and places at the ends of what may be, and what no Dec may be.
func TestAtTheEnds(t *testing.T) {
	nines := repeat("9", 1000)
	expectAt(t, []atRow{
		{"9e1999", 1999, api.Up, "9e1999"}, {"95e1998", 1999, api.Down, "9e1999"}, {"95e1998", 1999, api.HalfDown, "9e1999"}, {"95e1998", 1999, api.HalfUp, "range"}, {"-95e1998", 1999, api.Floor, "range"}, {"-95e1998", 1999, api.Ceiling, "-9e1999"},
		{"5e1999", 2000, api.HalfEven, "0"}, {"5e1999", 2000, api.HalfDown, "0"}, {"5e1999", 2000, api.HalfUp, "range"}, {"5e1999", 2000, api.HalfOdd, "range"}, {"-6e1999", 2000, api.HalfEven, "range"}, {"-5e1999", 2000, api.HalfEven, "-0"},
		{"9e1999", 2001, api.HalfUp, "0"}, {"9e1999", 4000, api.HalfUp, "0"}, {"-9e1999", 4000, api.Ceiling, "-0"}, {"-9e1999", 4000, api.Floor, "range"}, {"9e1999", -4000, api.Up, "9e1999"},
		{"1e-2001", -2001, api.Up, "1e-2001"}, {"1e-2001", -4000, api.Up, "1e-2001"}, {"1e-2001", -2000, api.Up, "1e-2000"}, {"1e-2001", -2000, api.HalfUp, "0"}, {"-5e-2001", -2000, api.HalfUp, "-1e-2000"}, {"15e-2002", -2001, api.HalfEven, "2e-2001"},
		{"1e-2001", 1999, api.Up, "1e1999"}, {"1e-2001", 2000, api.Up, "range"}, {"1e-2001", 4000, api.Up, "range"}, {"1e-2001", 4000, api.HalfEven, "0"}, {"-1e-2001", 4000, api.Ceiling, "-0"}, {"-1e-2001", 1999, api.Floor, "-1e1999"},
		{nines + "e1000", 1000, api.Up, nines + "e1000"}, {nines + "e1000", 1001, api.Down, repeat("9", 999) + "e1001"}, {nines + "e1000", 1001, api.HalfUp, "range"}, {nines + "e-3000", -3000, api.Up, nines + "e-3000"}, {nines + "e-3000", -2999, api.Up, "1e-2000"}, {nines + "e-3000", 4000, api.Down, "0"},
		{nines + "e-500", 0, api.Floor, repeat("9", 500) + "e0"}, {nines + "e-500", 0, api.HalfEven, "1e500"}, {"-" + nines + "e-500", -499, api.Ceiling, "-" + repeat("9", 999) + "e-499"},
	}...)
}

func TestDigitsAtTheEnds(t *testing.T) {
	nines := repeat("9", 1000)
	expectDigits(t, []digitsRow{
		{"9e1999", 1, api.Up, "9e1999"}, {"95e1998", 1, api.Up, "range"}, {"95e1998", 1, api.Down, "9e1999"}, {"-95e1998", 1, api.HalfEven, "range"}, {"-95e1998", 1, api.HalfOdd, "-9e1999"},
		{"1e-2001", 1, api.Down, "1e-2001"}, {"1e-2001", 1000, api.Up, "1e-2001"}, {"19e-2002", 1, api.Up, "2e-2001"}, {"-19e-2002", 1, api.Down, "-1e-2001"},
		{nines, 1000, api.Up, nines + "e0"}, {nines, 999, api.Down, repeat("9", 999) + "e1"}, {nines + "e1000", 1000, api.Ceiling, nines + "e1000"}, {nines + "e1000", 999, api.Ceiling, "range"}, {"-" + nines + "e1000", 999, api.Ceiling, "-" + repeat("9", 999) + "e1001"}, {nines + "e-3000", 1000, api.Up, nines + "e-3000"},
	}...)
}

func TestStepAtTheEnds(t *testing.T) {
	most := repeat("9", 32)
	expectStep(t, []stepRow{
		{"1e-2001", "1e1999", api.Up, "1e1999"}, {"1e-2001", "1e1999", api.HalfUp, "0"}, {"-1e-2001", "9e1999", api.Floor, "-9e1999"}, {"-1e-2001", "9e1999", api.Ceiling, "-0"},
		{"1e1999", "1e-2001", api.Up, "1e1999"}, {"1e1999", "3e-2001", api.Up, "range"}, {"1e1999", "3e-2001", api.Down, "range"}, {"9e1999", "3e-2001", api.Up, "9e1999"},
		{"9e1999", "7e1999", api.HalfEven, "7e1999"}, {"9e1999", "7e1999", api.Up, "range"}, {"9e1999", "6e1999", api.HalfEven, "range"}, {"9e1999", "6e1999", api.HalfOdd, "6e1999"}, {"-9e1999", "6e1999", api.HalfDown, "-6e1999"}, {"-9e1999", "6e1999", api.HalfUp, "range"},
		{"1e1999", "3e999", api.Down, repeat("9", 1000) + "e999"}, {"1e1999", "3e998", api.Down, "range"}, {"1e1999", "3e999", api.Up, "range"}, {"1e1998", "3e999", api.Up, "1" + repeat("0", 998) + "2e999"},
		{"1e32", most, api.Down, most + "e0"}, {"1e32", most, api.HalfEven, most + "e0"}, {"1e32", most, api.Up, "199999999999999999999999999999998e0"}, {"1e1999", most + "e1967", api.Down, most + "e1967"}, {"1e1999", most + "e1968", api.Down, "0"},
		{"1e0", most + "e1968", api.Up, most + "e1968"}, {"-1e0", most + "e-2032", api.Up, "range"}, {"1e-2000", most + "e-2032", api.Down, most + "e-2032"}, {"1e-2001", most + "e-2032", api.Down, "0"}, {"5e-2001", "1e-2001", api.Up, "5e-2001"}, {"1e-2001", "3e-2001", api.Up, "3e-2001"}, {"1e-2001", "3e-2001", api.HalfUp, "0"},
	}...)
}
