package round_test

import (
	"fmt"
	"math"
	"testing"

	"quipu/api"
	"quipu/round"
)

// P6.1

// wrongDecs: those that may not be, of every kind.
func wrongDecs() []api.Dec {
	return []api.Dec{
		{Digits: "10"}, {Digits: "01", Neg: true}, {Digits: "0"}, {Digits: "x"}, {Digits: "1.5"}, {Exp: 1}, {Exp: -1, Neg: true},
		{Class: -1}, {Class: api.NaN + 1}, {Class: math.MaxInt, Digits: "1"}, {Class: math.MinInt},
		{Class: api.Inf, Digits: "1"}, {Class: api.Inf, Exp: 3}, {Class: api.NaN, Neg: true}, {Class: api.NaN, Digits: "1"},
		{Digits: repeat("1", 1001)}, {Digits: repeat("1", 1<<20), Exp: -1 << 20}, {Digits: "1", Exp: 2000}, {Digits: "1", Exp: -2002}, {Digits: repeat("7", 1000), Exp: 1001},
		{Digits: "1", Exp: math.MaxInt}, {Digits: "1", Exp: math.MinInt},
	}
}

// kept: those that stay as they are, whatever they are rounded to.
func kept() []api.Dec { return all("0", "-0", "inf", "-inf", "nan") }

// rightDecs: those that may be; some of them no Dec may be of, once they are rounded.
func rightDecs() []api.Dec {
	return append(kept(), all("1e0", "-15e-1", "9e1999", "-1e-2001", repeat("9", 1000)+"e1000")...)
}

func rightModes() []int { return []int{0, 1, 2, 3, 4, 5, 6, 7} }
func wrongModes() []int {
	return []int{-1, 8, 9, 256, math.MaxInt, math.MinInt, 1 << 32, -1 << 32}
}

func rightPlaces() []int { return []int{-4000, -3999, -2, -1, 0, 1, 2, 3999, 4000} }
func wrongPlaces() []int {
	return []int{-4001, 4001, -5000, 5000, math.MaxInt, math.MinInt, 1 << 32, -1 << 32}
}

func rightCounts() []int { return []int{1, 2, 999, 1000} }
func wrongCounts() []int {
	return []int{0, -1, 1001, 1002, 4000, -1000, math.MaxInt, math.MinInt, 1<<32 + 1}
}

func rightSteps() []api.Dec {
	return all("1e0", "5e-2", "1e1999", "1e-2001", repeat("9", 31)+"e0", repeat("9", 32)+"e0", repeat("9", 32)+"e1968", repeat("3", 32)+"e-2032")
}

func wrongSteps() []api.Dec {
	return all("0", "-0", "-1e0", "-5e-2", "-1e-2001", "inf", "-inf", "nan", repeat("1", 33), repeat("1", 33)+"e-40", "-"+repeat("1", 33), repeat("9", 1000), "1"+repeat("0", 32)+"1")
}

// ahead answers the word of the first error that applies; none, if none does.
func ahead(badDec, badMode, badUnit bool, unit string) string {
	switch {
	case badDec:
		return "form"
	case badMode:
		return "mode"
	case badUnit:
		return unit
	}
	return ""
}

// either hands over each of two lists' items, and whether it is one of the second.
func either[T any](right, wrong []T, do func(item T, isWrong bool)) {
	for _, item := range right {
		do(item, false)
	}
	for _, item := range wrong {
		do(item, true)
	}
}

// eachDecAndMode hands over all pairs, and which of the two is wrong.
func eachDecAndMode(do func(d api.Dec, mode int, badDec, badMode bool)) {
	either(rightDecs(), wrongDecs(), func(d api.Dec, badDec bool) {
		either(rightModes(), wrongModes(), func(mode int, badMode bool) { do(d, mode, badDec, badMode) })
	})
}

// expectError holds an answer against an error's word; against none, it must be a number, or that none may be of what came of it.
func expectError(t *testing.T, what, got, want string) {
	t.Helper()
	if want == "" {
		switch got {
		case "form", "mode", "place", "step":
			t.Errorf("%.120s: %s", what, got)
		}
		return
	}
	expect(t, what, got, want)
}

func TestErrorsOfAt(t *testing.T) {
	eachDecAndMode(func(d api.Dec, mode int, badDec, badMode bool) {
		either(rightPlaces(), wrongPlaces(), func(place int, badPlace bool) {
			what := fmt.Sprintf("At of %.40v, %d, %d", d, place, mode)
			expectError(t, what, told(round.At(d, place, mode)), ahead(badDec, badMode, badPlace, "place"))
		})
	})
}

func TestErrorsOfDigits(t *testing.T) {
	eachDecAndMode(func(d api.Dec, mode int, badDec, badMode bool) {
		either(rightCounts(), wrongCounts(), func(n int, badCount bool) {
			what := fmt.Sprintf("Digits of %.40v, %d, %d", d, n, mode)
			expectError(t, what, told(round.Digits(d, n, mode)), ahead(badDec, badMode, badCount, "place"))
		})
	})
}

func TestErrorsOfStep(t *testing.T) {
	eachDecAndMode(func(d api.Dec, mode int, badDec, badMode bool) {
		either(rightSteps(), wrongSteps(), func(step api.Dec, badStep bool) {
			what := fmt.Sprintf("Step of %.40v, %.40v, %d", d, step, mode)
			expectError(t, what, told(round.Step(d, step, mode)), ahead(badDec, badMode, badStep, "step"))
		})
		for _, step := range wrongDecs() {
			expect(t, fmt.Sprintf("Step of %.40v, %.40v, %d", d, step, mode), told(round.Step(d, step, mode)), "form")
		}
	})
}

// What is refused of its own is so ahead of ErrDecRange, and that comes where nothing else is wrong.
func TestRangeComesLast(t *testing.T) {
	expectAt(t, []atRow{{"9e1999", 2000, api.Up, "range"}, {"9e1999", 4001, api.Up, "place"}, {"9e1999", 2000, api.Modes, "mode"}, {"9e1999", 4001, api.Modes, "mode"}}...)
	expectDigits(t, []digitsRow{{"95e1998", 1, api.Up, "range"}, {"95e1998", 0, api.Up, "place"}, {"95e1998", 1, -1, "mode"}, {"95e1998", 0, -1, "mode"}}...)
	expectStep(t, []stepRow{{"9e1999", "7e1999", api.Up, "range"}, {"9e1999", "-7e1999", api.Up, "step"}, {"9e1999", "7e1999", api.Modes, "mode"}, {"9e1999", "-7e1999", api.Modes, "mode"}}...)
}

// An infinity, a NaN and a zero are as they were, by every mode and unit.
func TestKept(t *testing.T) {
	for _, d := range kept() {
		for _, mode := range rightModes() {
			want := told(d, api.OK)
			for _, place := range rightPlaces() {
				expect(t, fmt.Sprintf("At %d", place), told(round.At(d, place, mode)), want)
			}
			for _, n := range rightCounts() {
				expect(t, fmt.Sprintf("Digits %d", n), told(round.Digits(d, n, mode)), want)
			}
			for _, step := range rightSteps() {
				expect(t, fmt.Sprintf("Step %v", step), told(round.Step(d, step, mode)), want)
			}
		}
	}
}
