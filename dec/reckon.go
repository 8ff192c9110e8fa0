package dec

import (
	"strings"

	"quipu/api"
	"quipu/decform"
	"quipu/nat"
	"quipu/whole"
)

// Add: the sum.
func Add(a, b api.Dec) (api.Dec, api.Errno) {
	switch {
	case !May(a) || !May(b):
		return api.Dec{}, api.ErrDecForm
	case a.Class == api.Finite && b.Class == api.Finite:
		return sum(a, b)
	case a.Class == api.NaN || b.Class == api.NaN:
		return api.Dec{Class: api.NaN}, api.OK
	case b.Class == api.Finite:
		return a, api.OK
	case a.Class == api.Finite:
		return b, api.OK
	case a.Neg != b.Neg:
		return api.Dec{Class: api.NaN}, api.OK
	}
	return a, api.OK
}

// sum is that of finite ones: both are counted in the lesser power of ten of the two.
func sum(a, b api.Dec) (api.Dec, api.Errno) {
	exp := min(a.Exp, b.Exp)
	total := whole.Add(counted(a, exp), counted(b, exp))
	// A whole 0 has no sign: it is -0 here, if both have one.
	return decform.Finite(total.Neg || a.Neg && b.Neg, whole.Text(total.Mag), exp)
}

// counted answers how many times 10^exp d is; exp is not above its own. What may be is, with all noughts between the two exponents, shorter than what whole.Parse refuses.
func counted(d api.Dec, exp int) whole.Int {
	if d.Digits == "" {
		return whole.Int{}
	}
	mag, _ := whole.Parse(d.Digits + strings.Repeat("0", d.Exp-exp))
	return whole.Make(d.Neg, mag)
}

// Mul: the product.
func Mul(a, b api.Dec) (api.Dec, api.Errno) {
	neg := a.Neg != b.Neg
	switch {
	case !May(a) || !May(b):
		return api.Dec{}, api.ErrDecForm
	case a.Class == api.Finite && b.Class == api.Finite:
		return product(neg, a, b)
	case a.Class == api.NaN || b.Class == api.NaN || isZero(a) || isZero(b):
		// Without a NaN one of both is an infinity here.
		return api.Dec{Class: api.NaN}, api.OK
	}
	return api.Dec{Class: api.Inf, Neg: neg}, api.OK
}

func isZero(d api.Dec) bool {
	return d.Class == api.Finite && d.Digits == ""
}

func product(neg bool, a, b api.Dec) (api.Dec, api.Errno) {
	mag := nat.Mul(counted(a, a.Exp).Mag, counted(b, b.Exp).Mag)
	return decform.Finite(neg, whole.Text(mag), a.Exp+b.Exp)
}
