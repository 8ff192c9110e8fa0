package decform_test

import (
	"strings"
	"testing"

	"quipu/api"
	"quipu/decform"
)

func TestFinite(t *testing.T) {
	for _, x := range []struct {
		digits string
		exp    int
		want   api.Dec
	}{
		{"", 7, api.Dec{}},
		{"0", -7, api.Dec{}},
		{"000", 3, api.Dec{}},
		{"5", 0, api.Dec{Digits: "5"}},
		{"5", -3, api.Dec{Digits: "5", Exp: -3}},
		{"050", -3, api.Dec{Digits: "5", Exp: -2}},
		{"00", 0, api.Dec{}},
		{"102", 4, api.Dec{Digits: "102", Exp: 4}},
		{"0010200", 4, api.Dec{Digits: "102", Exp: 6}},
	} {
		for _, neg := range []bool{false, true} {
			x.want.Neg = neg
			if got, err := decform.Finite(neg, x.digits, x.exp); got != x.want || err != api.OK {
				t.Errorf("%q, %d: %v, error %d, not %v", x.digits, x.exp, got, err, x.want)
			}
		}
	}
}

// What is answered may be; it is refused, if there are too many digits, or they are too far out.
func TestFiniteRefuses(t *testing.T) {
	noughts := strings.Repeat("0", 3000)
	for _, x := range []struct {
		digits string
		exp    int
		want   bool
	}{
		{noughts + "1" + noughts, -3000, true},
		{noughts + "1", 1999, true},
		{noughts + "1", 2000, false},
		{"1" + noughts, -5001, true},
		{"1" + noughts, -5002, false},
		{noughts, 1 << 40, true},
		{strings.Repeat("1", 1000) + noughts, -3000, true},
		{strings.Repeat("1", 1001) + noughts, -3000, false},
	} {
		d, err := decform.Finite(true, x.digits, x.exp)
		if x.want && (err != api.OK || !decform.May(d)) || !x.want && (err != api.ErrDecRange || d != api.Dec{}) {
			t.Errorf("%d digits, %d: error %d", len(x.digits), x.exp, err)
		}
	}
}
