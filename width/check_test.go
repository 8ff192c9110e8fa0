package width_test

import (
	"fmt"
	"math"
	"testing"

	"quipu/api"
	"quipu/width"
)

// P7.1

func expectCheck(t *testing.T, what string, p api.Precision, may bool) {
	t.Helper()
	want := api.OK
	if !may {
		want = api.ErrWidthForm
	}
	if got := width.Check(p); got != want {
		t.Errorf("%s: Check of %s: %d, not %d", what, short(fmt.Sprint(p)), got, want)
	}
}

// bounded is a precision that may be, and how far each of its numbers may go while the others stay.
type bounded struct {
	p                                api.Precision
	minFrac, maxFrac, minSig, maxSig [2]int
	strict                           bool
}

func boundedOnes() []bounded {
	zero := [2]int{0, 0}
	return []bounded{
		{everything(), zero, zero, zero, zero, false},
		{frac(3, 7), [2]int{0, 7}, [2]int{3, 99}, zero, zero, false},
		{frac(0, 0), zero, [2]int{0, 99}, zero, zero, false},
		{frac(99, 99), [2]int{0, 99}, [2]int{99, 99}, zero, zero, false},
		{sig(3, 7), zero, zero, [2]int{1, 7}, [2]int{3, 99}, false},
		{sig(1, 1), zero, zero, [2]int{1, 1}, [2]int{1, 99}, false},
		{sig(99, 99), zero, zero, [2]int{1, 99}, [2]int{99, 99}, false},
		{both(3, 7, 4, 8), [2]int{0, 7}, [2]int{3, 99}, [2]int{1, 8}, [2]int{4, 99}, true},
		{strict(both(5, 5, 2, 2)), [2]int{0, 5}, [2]int{5, 99}, [2]int{1, 2}, [2]int{2, 99}, true},
		{step("0.05", 3), [2]int{0, 99}, zero, zero, zero, false},
	}
}

// each goes through the numbers about all bounds, and to the ends of an int.
func each(do func(n int)) {
	for n := -300; n <= 300; n++ {
		do(n)
	}
	for _, n := range []int{math.MinInt, math.MinInt + 1, -1 << 32, 1 << 8, 1 << 16, 1 << 32, 1<<32 + 5, math.MaxInt - 1, math.MaxInt} {
		do(n)
	}
}

func inside(n int, bounds [2]int) bool { return bounds[0] <= n && n <= bounds[1] }

func TestCheckFields(t *testing.T) {
	for _, x := range boundedOnes() {
		expectCheck(t, "as it is", x.p, true)
		for _, field := range []struct {
			name   string
			bounds [2]int
			put    func(p *api.Precision, n int)
		}{
			{"MinFrac", x.minFrac, func(p *api.Precision, n int) { p.MinFrac = n }},
			{"MaxFrac", x.maxFrac, func(p *api.Precision, n int) { p.MaxFrac = n }},
			{"MinSig", x.minSig, func(p *api.Precision, n int) { p.MinSig = n }},
			{"MaxSig", x.maxSig, func(p *api.Precision, n int) { p.MaxSig = n }},
			{"Mode", [2]int{0, 7}, func(p *api.Precision, n int) { p.Mode = n }},
			{"IntMin", [2]int{0, 99}, func(p *api.Precision, n int) { p.IntMin = n }},
			{"IntMax", [2]int{0, 99}, func(p *api.Precision, n int) { p.IntMax = n }},
		} {
			each(func(n int) {
				p := x.p
				field.put(&p, n)
				expectCheck(t, field.name, p, inside(n, field.bounds))
			})
		}
		expectCheck(t, "Strict", strict(x.p), x.strict)
		expectCheck(t, "Hide", hidden(x.p), true)
	}
}

// A kind that is none is refused, whatever the fields are; with the fields of one kind another one may be only where those that it lacks are zero.
func TestCheckKinds(t *testing.T) {
	for _, x := range boundedOnes() {
		each(func(n int) {
			p := x.p
			p.Kind = n
			may := n == x.p.Kind
			switch {
			case x.p == everything() || x.p == frac(0, 0):
				may = n == api.PrecAll || n == api.PrecFrac
			case x.p.Kind == api.PrecSig:
				may = may || n == api.PrecBoth
			}
			expectCheck(t, "Kind", p, may)
		})
	}
}

// pairs goes through each two numbers of those about the bounds.
func pairs(do func(low, high int)) {
	list := []int{math.MinInt, -100, -1, 0, 1, 2, 3, 5, 50, 97, 98, 99, 100, 101, math.MaxInt}
	for _, low := range list {
		for _, high := range list {
			do(low, high)
		}
	}
}

func TestCheckIntMinAndIntMax(t *testing.T) {
	for _, x := range boundedOnes() {
		pairs(func(low, high int) {
			may := low >= 0 && low <= 99 && (high == 0 || high >= 1 && high <= 99 && high >= low)
			expectCheck(t, "IntMin, IntMax", ints(low, high, x.p), may)
		})
	}
}

func TestCheckLeastAndMost(t *testing.T) {
	pairs(func(low, high int) {
		mayFrac := low >= 0 && high <= 99 && low <= high
		maySig := low >= 1 && high <= 99 && low <= high
		expectCheck(t, "frac", frac(low, high), mayFrac)
		expectCheck(t, "sig", sig(low, high), maySig)
		for _, change := range []func(api.Precision) api.Precision{strict, hidden} {
			expectCheck(t, "both, frac", change(both(low, high, 1, 1)), mayFrac)
			expectCheck(t, "both, sig", change(both(0, 0, low, high)), maySig)
			expectCheck(t, "both, either", change(both(low, high, low, high)), mayFrac && maySig)
		}
	})
}

func rightSteps() []api.Dec {
	return all("1", "3", "0.05", "50", "1e1999", "1e-2001", repeat("9", 32), repeat("7", 32)+"e1968", repeat("7", 32)+"e-2032", "1"+repeat("0", 30)+"1")
}

// wrongSteps: what may be, but is no step; and what may not be. None of them is the field's zero, but the first.
func wrongSteps() []api.Dec {
	list := append([]api.Dec{{}}, all("-0", "inf", "-inf", "nan", "-1", "-0.05", "-1e1999", repeat("9", 33), repeat("7", 1000), "1"+repeat("0", 31)+"1e-50")...)
	return append(list, wrongDecs()...)
}

func TestCheckSteps(t *testing.T) {
	for _, least := range []int{0, 2, 99} {
		for mode := range api.Modes {
			for _, d := range rightSteps() {
				expectCheck(t, "step", api.Precision{Kind: api.PrecStep, Step: d, MinFrac: least, Mode: mode}, true)
			}
			for _, d := range wrongSteps() {
				expectCheck(t, "no step", api.Precision{Kind: api.PrecStep, Step: d, MinFrac: least, Mode: mode}, false)
			}
		}
	}
}

// A kind without a step has the zero value there, nothing else: no -0, and nothing that may not be.
func TestCheckStepOfOthers(t *testing.T) {
	for _, x := range boundedOnes() {
		if x.p.Kind == api.PrecStep {
			continue
		}
		for _, d := range append(rightSteps(), wrongSteps()[1:]...) {
			p := x.p
			p.Step = d
			expectCheck(t, "a step", p, false)
		}
	}
}

func TestCheckExamples(t *testing.T) {
	for _, p := range []api.Precision{frac(3, 2), {Kind: api.PrecAll, MinFrac: 1}, sig(0, 1), ints(5, 3, everything()), by(8, everything())} {
		expectCheck(t, "example", p, false)
	}
	for _, p := range precisions() {
		for mode := range api.Modes {
			expectCheck(t, "of all kinds", by(mode, ints(99, 99, hidden(p))), true)
		}
	}
}

// wrongPrecisions: at least one of each thing that is looked at.
func wrongPrecisions() []api.Precision {
	list := []api.Precision{
		{Kind: -1}, {Kind: api.Precs}, {Kind: math.MaxInt}, {Kind: math.MinInt}, {Mode: -1}, {Mode: api.Modes}, {Mode: math.MinInt},
		{IntMin: -1}, {IntMin: 100}, {IntMax: -1}, {IntMax: 100}, {IntMin: 5, IntMax: 3},
		{MinFrac: 1}, {MaxFrac: 1}, {MinSig: 1}, {MaxSig: 1}, {Strict: true}, {Step: of("1")}, {Step: of("-0")},
		frac(3, 2), frac(-1, 2), frac(0, 100), frac(math.MinInt, math.MaxInt), strict(frac(1, 2)), sig(0, 1), sig(3, 2), sig(1, 100), strict(sig(1, 2)),
		both(3, 2, 1, 1), both(0, 0, 2, 1), both(0, 0, 0, 0), both(0, 100, 1, 1), both(0, 0, 1, 100), strict(step("1", 0)), step("-1", 0), step("0", 0), step("nan", 0), step("1", 100), step("1", -1),
	}
	for _, d := range wrongDecs() {
		list = append(list, api.Precision{Kind: api.PrecStep, Step: d})
	}
	return list
}

// wrongDecs: those that may not be, of every kind.
func wrongDecs() []api.Dec {
	return []api.Dec{
		{Class: api.NaN, Neg: true}, {Class: api.NaN, Digits: "5"}, {Class: api.NaN, Exp: 1}, {Class: api.Inf, Digits: "5"}, {Class: api.Inf, Exp: -1}, {Class: 3}, {Class: -1, Digits: "5"}, {Class: math.MaxInt},
		{Exp: 1}, {Neg: true, Exp: -1}, {Exp: math.MinInt}, {Digits: "0"}, {Digits: "05"}, {Digits: "50"}, {Digits: "5a5"}, {Digits: "5."}, {Digits: "-5"}, {Digits: "\xff"}, {Digits: "٣"},
		{Digits: repeat("7", 1001), Exp: -500}, {Digits: "5", Exp: 2000}, {Digits: "5", Exp: -2002}, {Digits: "5", Exp: math.MaxInt}, {Digits: "5", Exp: math.MinInt},
	}
}
