package dec_test

import (
	"testing"

	"quipu/api"
	"quipu/dec"
)

// P5.6

// few: Decs of which many sums and products may be, zeros of both signs and a NaN among them.
func few() []api.Dec {
	all := []api.Dec{of("nan"), of("0"), of("-0"), of("1e0"), of("-1e0"), of("5e-1"), of("-2e3"), of("999e-2"), of("1e900"), of("-1e-900"), of("1e1200"), of("1e-1200"), of(repeat("9", 300) + "e0"), of("-" + repeat("1", 300) + "e-150")}
	c := chance{state: 11}
	for i := range 10 {
		all = append(all, c.dec(1+30*i, 40))
	}
	return all
}

// A product by a sum is the sum of the products, by its value: a 0 may be -0 on one side alone, as -1 times 1 and -1 shows.
func TestProductOfSum(t *testing.T) {
	held := 0
	for _, a := range few() {
		for _, b := range few() {
			for _, c := range few() {
				left, leftErr := times(a)(dec.Add(b, c))
				right, rightErr := plus(dec.Mul(a, b))(dec.Mul(a, c))
				if leftErr != api.OK || rightErr != api.OK {
					continue
				}
				held++
				if order, err := dec.Cmp(left, right); order != 0 || err != api.OK {
					t.Errorf("%s times %s and %s: %s, not %s", show(a), show(b), show(c), show(left), show(right))
				}
			}
		}
	}
	if held < 5000 {
		t.Error("too few are not refused:", held)
	}
}

// times and plus go on with an answer, or with its error.
func times(a api.Dec) func(api.Dec, api.Errno) (api.Dec, api.Errno) {
	return func(b api.Dec, err api.Errno) (api.Dec, api.Errno) {
		if err != api.OK {
			return b, err
		}
		return dec.Mul(a, b)
	}
}

func plus(a api.Dec, first api.Errno) func(api.Dec, api.Errno) (api.Dec, api.Errno) {
	return func(b api.Dec, second api.Errno) (api.Dec, api.Errno) {
		if err := max(first, second); err != api.OK {
			return b, err
		}
		return dec.Add(a, b)
	}
}

// Cmp is one order, which Add keeps where nothing is refused.
func TestAddKeepsOrder(t *testing.T) {
	held := 0
	for _, a := range few() {
		for _, b := range few() {
			order, _ := dec.Cmp(a, b)
			if back, _ := dec.Cmp(b, a); back != -order {
				t.Errorf("%s, %s: %d and back %d", show(a), show(b), order, back)
			}
			for _, c := range few() {
				left, leftErr := dec.Add(a, c)
				right, rightErr := dec.Add(b, c)
				if leftErr != api.OK || rightErr != api.OK || c.Class == api.NaN {
					continue
				}
				held++
				if got, err := dec.Cmp(left, right); got != order || err != api.OK {
					t.Errorf("%s, %s, each and %s: %d, error %d, not %d", show(a), show(b), show(c), got, err, order)
				}
			}
		}
	}
	if held < 5000 {
		t.Error("too few are not refused:", held)
	}
}

// A sum by parts is the same in any order of its parts.
func TestSumOfThree(t *testing.T) {
	for _, a := range few() {
		for _, b := range few() {
			for _, c := range few() {
				left, leftErr := plus(dec.Add(a, b))(c, api.OK)
				right, rightErr := plus(dec.Add(b, c))(a, api.OK)
				if leftErr == api.OK && rightErr == api.OK && left != right {
					t.Errorf("%s, %s, %s: %s, not %s", show(a), show(b), show(c), show(left), show(right))
				}
			}
		}
	}
}
