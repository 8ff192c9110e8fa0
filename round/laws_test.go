package round_test

import (
	"fmt"
	"math/big"
	"testing"

	"quipu/api"
	"quipu/dec"
	"quipu/round"
)

// P6.3

// rounder is one of the three calls with its unit; what that is of a number is told by another arithmetic.
type rounder struct {
	name string
	call func(d api.Dec, mode int) (api.Dec, api.Errno)
	unit func(d api.Dec) *big.Int
}

// fixed: those whose unit is the same for all numbers.
func fixed() []rounder {
	var list []rounder
	for _, place := range []int{-4000, -2001, -3, -1, 0, 1, 2, 9, 1000, 1999, 2000, 4000} {
		unit := power(place)
		list = append(list, rounder{
			fmt.Sprintf("At %d", place),
			func(d api.Dec, mode int) (api.Dec, api.Errno) { return round.At(d, place, mode) },
			func(api.Dec) *big.Int { return unit },
		})
	}
	for _, step := range all("1e0", "3e0", "5e-1", "25e-2", "7e1", "13e-3", "3e999", "7e1999", "3e-2001", repeat("7", 32)+"e-30") {
		unit := value(step)
		list = append(list, rounder{
			"Step " + told(step, api.OK),
			func(d api.Dec, mode int) (api.Dec, api.Errno) { return round.Step(d, step, mode) },
			func(api.Dec) *big.Int { return unit },
		})
	}
	return list
}

// rounders: those, and such as go by a number's place.
func rounders() []rounder {
	list := fixed()
	for _, n := range []int{1, 2, 3, 5, 999, 1000} {
		list = append(list, rounder{
			fmt.Sprintf("Digits %d", n),
			func(d api.Dec, mode int) (api.Dec, api.Errno) { return round.Digits(d, n, mode) },
			func(d api.Dec) *big.Int { return power(len(d.Digits) + d.Exp - n) },
		})
	}
	return list
}

// numbers: middles and what is next to them, those far out, and others; of both signs.
func numbers() []api.Dec {
	list := farNumbers()
	for _, text := range []string{"0.4", "0.5", "0.6", "1", "1.25", "1.5", "1.75", "2", "2.4", "2.5", "2.6", "3", "9.95", "25", "49.99", "50", "95", "99.5", "105", "995", "1000"} {
		list = append(list, of(text), of("-"+text))
	}
	r := source()
	for range 60 {
		list = append(list, someDec(r, 10, 6))
	}
	return list
}

// eachAnswer hands over all numbers that are rounded to one that may be.
func eachAnswer(t *testing.T, by []rounder, do func(what string, by rounder, d, answer api.Dec, mode int)) {
	t.Helper()
	held := 0
	for _, x := range by {
		for _, d := range append(numbers(), kept()...) {
			for mode := range api.Modes {
				if answer, err := x.call(d, mode); err == api.OK {
					do(fmt.Sprintf("%s, mode %d, of %s", x.name, mode, told(d, err)), x, d, answer, mode)
					held++
				}
			}
		}
	}
	if held < 8000 {
		t.Error("too few are not refused:", held)
	}
}

func TestRoundedStays(t *testing.T) {
	eachAnswer(t, rounders(), func(what string, by rounder, _, answer api.Dec, mode int) {
		for again := range api.Modes {
			expect(t, fmt.Sprintf("%s, again by %d", what, again), told(by.call(answer, again)), told(answer, api.OK))
		}
	})
}

// The greater of two numbers is not rounded to the lesser one.
func TestOrderStays(t *testing.T) {
	list := append(numbers(), all("0", "-0", "inf", "-inf")...)
	for _, by := range fixed() {
		for mode := range api.Modes {
			var answers []api.Dec
			var from []api.Dec
			for _, d := range list {
				if answer, err := by.call(d, mode); err == api.OK {
					answers, from = append(answers, answer), append(from, d)
				}
			}
			for i := range answers {
				for j := range answers {
					before, _ := dec.Cmp(from[i], from[j])
					after, _ := dec.Cmp(answers[i], answers[j])
					if before < 0 && after > 0 || before == 0 && after != 0 {
						t.Errorf("%s, mode %d: %s, %s", by.name, mode, told(from[i], api.OK), told(from[j], api.OK))
					}
				}
			}
		}
	}
}

// other answers what is taken back to the other sign.
func other(d api.Dec, err api.Errno) (api.Dec, api.Errno) {
	if err != api.OK {
		return d, err
	}
	return dec.Neg(d)
}

// Ceiling and Floor change places under a sign, the other modes go through it: what is refused, too.
func TestSigns(t *testing.T) {
	mirrored := []int{api.Floor, api.Ceiling, api.Down, api.Up, api.HalfEven, api.HalfDown, api.HalfUp, api.HalfOdd}
	for _, by := range rounders() {
		for _, d := range append(numbers(), kept()...) {
			opposite, _ := dec.Neg(d)
			for mode := range api.Modes {
				got := told(other(by.call(opposite, mirrored[mode])))
				expect(t, fmt.Sprintf("%s, mode %d, of %s", by.name, mode, told(d, api.OK)), got, told(by.call(d, mode)))
			}
		}
	}
}

// By a Half mode it is at most half a unit, by all modes less than one; and it is a multiple with the number's sign, a zero too.
func TestDistance(t *testing.T) {
	eachAnswer(t, rounders(), func(what string, by rounder, d, answer api.Dec, mode int) {
		if d.Class != api.Finite || d.Digits == "" {
			return
		}
		unit, rounded := by.unit(d), value(answer)
		if new(big.Int).Rem(rounded, unit).Sign() != 0 || answer.Neg != d.Neg || answer.Class != api.Finite {
			t.Errorf("%.120s: %.60s", what, told(answer, api.OK))
		}
		way := new(big.Int).Sub(value(d), rounded)
		if way.CmpAbs(unit) >= 0 || mode >= api.HalfEven && way.Lsh(way, 1).CmpAbs(unit) > 0 {
			t.Errorf("%.120s: %.60s is too far", what, told(answer, api.OK))
		}
	})
}

// At is Step by a power of 10, wherever that is a step.
func TestAtIsStep(t *testing.T) {
	for _, place := range []int{-2001, -2000, -1000, -4, -3, -2, -1, 0, 1, 2, 3, 4, 500, 1998, 1999} {
		for _, d := range append(numbers(), kept()...) {
			for mode := range api.Modes {
				got := told(round.At(d, place, mode))
				expect(t, fmt.Sprintf("%s at %d, mode %d", told(d, api.OK), place, mode), got, told(round.Step(d, api.Dec{Digits: "1", Exp: place}, mode)))
			}
		}
	}
}

// At a place that all digits reach it is the number.
func TestAtWhatAllDigitsReach(t *testing.T) {
	for _, d := range numbers() {
		for _, place := range []int{d.Exp, d.Exp - 1, d.Exp - 20, -4000} {
			for mode := range api.Modes {
				expect(t, fmt.Sprintf("at %d", place), told(round.At(d, place, mode)), told(d, api.OK))
			}
		}
	}
}

// So it is with as many digits as it has, or more.
func TestDigitsThatAllHave(t *testing.T) {
	for _, d := range numbers() {
		for _, n := range []int{len(d.Digits), min(len(d.Digits)+1, 1000), 1000} {
			for mode := range api.Modes {
				expect(t, fmt.Sprintf("%d digits", n), told(round.Digits(d, n, mode)), told(d, api.OK))
			}
		}
	}
}
