package dec_test

import (
	"testing"

	"quipu/api"
	"quipu/dec"
)

// P5.1

func TestMay(t *testing.T) {
	for _, d := range decs(300) {
		if !dec.May(d) {
			t.Errorf("May of %s: false", show(d))
		}
	}
	for _, d := range wrongDecs() {
		if dec.May(d) {
			t.Errorf("May of %s: true", show(d))
		}
	}
}

// Each length up to the longest, at both ends of its places and just beyond.
func TestMayOfEverySize(t *testing.T) {
	for size := 1; size <= 1001; size++ {
		for place, want := range map[int]bool{2000: true, 1999: true, 0: true, -1999: true, -2000: true, 2001: false, -2001: false} {
			d := api.Dec{Digits: repeat("6", size), Exp: place - size}
			want = want && size <= 1000
			if got := dec.May(d); got != want {
				t.Errorf("May of %d digits at place %d: %t", size, place, got)
			}
			if !want {
				place = 0
			}
			if got := dec.Place(d); got != place {
				t.Errorf("Place of %d digits: %d, not %d", size, got, place)
			}
		}
	}
}

func TestPlace(t *testing.T) {
	for text, want := range map[string]int{
		"15e-1": 1, "1e0": 1, "-1e0": 1, "12345e0": 5, "5e-1": 0, "-5e-2": -1, "1e-2001": -2000, "1e1999": 2000, "-123e-3": 0, "105e7": 10,
		"0": 0, "-0": 0, "inf": 0, "-inf": 0, "nan": 0,
	} {
		if got := dec.Place(of(text)); got != want {
			t.Errorf("Place of %s: %d, not %d", text, got, want)
		}
	}
	for _, d := range wrongDecs() {
		if got := dec.Place(d); got != 0 {
			t.Errorf("Place of %s: %d", show(d), got)
		}
	}
}

// The amount is below 10^place, and not below 10^(place - 1).
func TestPlaceHoldsTheAmount(t *testing.T) {
	for _, d := range decs(300) {
		if d.Digits == "" {
			continue
		}
		amount := value(d)
		amount.Abs(amount)
		place := dec.Place(d) + depth
		if amount.Cmp(power(place)) >= 0 || amount.Cmp(power(place-1)) < 0 {
			t.Errorf("Place of %s: %d", show(d), place-depth)
		}
	}
}

// P5.2 to P5.5: what may not be is refused, wherever it stands, and whatever stands beside it, ahead of everything else.
func TestWrongDecs(t *testing.T) {
	for _, d := range wrongDecs() {
		if text, err := dec.Print(d); text != "" || err != api.ErrDecForm {
			t.Errorf("Print of %s: %q, error %d", show(d), text, err)
		}
		expect(t, "Neg", "form")(dec.Neg(d))
		for _, k := range []int{0, 1, -1, 100000} {
			expect(t, "Scale", "form")(dec.Scale(d, k))
		}
		for _, other := range []api.Dec{of("0"), of("1e0"), of("-inf"), of("nan"), of("1e1999"), d, {Digits: "10"}} {
			refusesPair(t, d, other)
			refusesPair(t, other, d)
		}
	}
}

func refusesPair(t *testing.T, a, b api.Dec) {
	t.Helper()
	if order, err := dec.Cmp(a, b); order != 0 || err != api.ErrDecForm {
		t.Errorf("Cmp of %s, %s: %d, error %d", show(a), show(b), order, err)
	}
	expect(t, "Add", "form")(dec.Add(a, b))
	expect(t, "Mul", "form")(dec.Mul(a, b))
}
